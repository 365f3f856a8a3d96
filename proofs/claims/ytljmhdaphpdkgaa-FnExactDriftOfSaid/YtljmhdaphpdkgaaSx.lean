/-
  A symbolic executor over the evaluator: it runs a function on variables, in a table of nodes, with decisions for what depends on them ('funS'); what it finds of a law holds for all values of the variables ('law_run', 'sx_walk'). No condition; nothing of one program stands here.
-/
import Derived.Test.YtljmhdaphpdkgaaSw
set_option linter.unusedSectionVars false
noncomputable section
namespace Sx
open Go Ev

section
variable {F : Tab} {ρ : Nat → Int} {U : Nat → Vl → Vl}

/-! ### rows of integers -/
theorem cvl_cons (x : SV) (r : List SV) : cvl F ρ U (x :: r) = cv F ρ U x :: cvl F ρ U r := rfl
theorem isI_int {x : SV} {k : IntKind} (h : isI x = some k) : ∃ z, cv F ρ U x = .int k z := by
  unfold isI at h
  split at h
  · cases h; exact ⟨_, cv_n _ _⟩
  · cases h; exact ⟨_, cv_lit _⟩
  · cases h
theorem allIntS_spec {k : IntKind} : ∀ {l : List SV}, allIntS k l = true → allInt k (cvl F ρ U l) = true
  | [], _ => rfl
  | x :: r, h => by
    rw [allIntS, Bool.and_eq_true] at h
    cases hx : isI x with
    | none => rw [hx] at h; cases h.1
    | some k' =>
      rw [hx] at h
      obtain ⟨z, hz⟩ := isI_int (F := F) (ρ := ρ) (U := U) hx
      rw [cvl, List.map_cons, show conc (raw F ρ U) x = _ from hz, ← sameI_eq h.1]
      rw [← sameI_eq h.1] at h
      show (decide (k' = k') && allInt k' (cvl F ρ U r)) = true
      rw [allIntS_spec h.2, decide_eq_true rfl]; rfl
theorem eqCell_spec (hB : Base F ρ U) {x y : SV} : Spec F (eqCell x y) (fun e => ∃ k a b, cv F ρ U x = .int k a ∧ cv F ρ U y = .int k b ∧ tv F ρ U e = (a == b)) := by
  unfold eqCell
  split
  · rename_i k k' hx hy
    refine Spec.gd fun hk => Spec.bnd (asI_spec (ρ := ρ) (U := U) hx) fun i => Spec.bnd (asI_spec (ρ := ρ) (U := U) hy) fun j => Spec.bnd (eqI_spec hB) fun e => (optB hB).mono fun r h1 h2 h3 h4 => ?_
    rw [h2] at h1
    refine ⟨k, _, _, h4, (sameI_eq hk) ▸ h3, ?_⟩
    injection h1 with h1
    exact h1.symm
  · exact Spec.non
theorem eqIntsS_spec (hB : Base F ρ U) : ∀ (xs ys : List SV), Spec F (eqIntsS xs ys) (fun g => tv F ρ U g = eqInts (cvl F ρ U xs) (cvl F ρ U ys))
  | [], [] => Spec.ret hB.t1
  | x :: r, y :: s => by
    unfold eqIntsS
    refine Spec.bnd (eqCell_spec hB) fun e => Spec.bnd (eqIntsS_spec hB r s) fun g => (andS_spec hB).mono fun q h1 h2 h3 => ?_
    obtain ⟨k, a, b, e1, e2, e3⟩ := h3
    rw [h1, h2, e3, cvl_cons, cvl_cons, e1, e2]
    rfl
  | [], _ :: _ => Spec.non
  | _ :: _, [] => Spec.non
theorem len_cvl (l : List SV) : (cvl F ρ U l).length = l.length := List.length_map ..
theorem get_cvl (l : List SV) (i : Nat) : (cvl F ρ U l)[i]? = (l[i]?).map (cv F ρ U) := List.getElem?_map
theorem cut_cvl (l : List SV) (o n : Nat) : ((cvl F ρ U l).drop o).take n = cvl F ρ U ((l.drop o).take n) := by
  unfold cvl
  rw [List.map_take, List.map_drop]
theorem chkS_spec {d : TypeDesc} {o : Option SV} {x : SV} (h : chkS d o = some x) : o = some x ∧ kS d x = true := by
  unfold chkS at h
  split at h
  · rename_i y
    cases hk : kS d y with
    | false => rw [hk] at h; cases h
    | true => rw [hk, cond_true] at h; cases h; exact ⟨rfl, hk⟩
  · cases h
theorem kS_ty {d : TypeDesc} {x : SV} (h : kS d x = true) : tyB d (cv F ρ U x) = true := by
  cases x with
  | lit v => rw [cv_lit]; exact h
  | n k' i =>
    rw [cv_n]
    cases d with
    | int k => have := sameI_eq h; subst this; exact kiB_self k
    | float _ => cases h
    | bool => cases h
    | string => cases h
    | _ => rfl
  | f k' i =>
    rw [cv_f]
    cases d with
    | float k => have := sameK_eq h; subst this; cases k <;> rfl
    | int _ => cases h
    | bool => cases h
    | string => cases h
    | _ => rfl
  | b i => rw [cv_b]; cases d <;> first | rfl | cases h
  | s i => rw [cv_s]; cases d <;> first | rfl | cases h
  | ptr b o => cases d <;> first | rfl | cases h
  | slice b o l c => cases d <;> first | rfl | cases h
  | func fn fs cs => cases d <;> first | rfl | cases h
  | agg l => cases d <;> first | rfl | cases h
  | tuple l => cases d <;> first | rfl | cases h
theorem tyB_agg {d : TypeDesc} (h : isAggD d = true) (v : Value) : tyB d v = true := by cases d <;> first | rfl | cases h
theorem partS_ty {P : Program} {ty : TypeId} {cs : List SV} {off : Nat} {x : SV} (h : partS P ty cs off = some x) (d : TypeDesc) (hu : P.underlying ty = some d) : tyB d (cv F ρ U x) = true := by
  unfold partS at h
  rw [hu] at h
  dsimp only at h
  cases ha : isAggD d with
  | true => exact tyB_agg ha _
  | false =>
    rw [ha, cond_false] at h
    exact kS_ty (chkS_spec h).2
theorem partS_spec {P : Program} {ty : TypeId} {cs : List SV} {off : Nat} {x : SV} (h : partS P ty cs off = some x) : partD P ty (cvl F ρ U cs) off = some (cv F ρ U x) := by
  unfold partS at h
  unfold partD
  split at h
  · rename_i d hd
    rw [hd]
    dsimp only
    cases ha : isAggD d with
    | true =>
      rw [ha, cond_true] at h
      split at h
      · rename_i i hi
        cases h
        rw [hi, cond_true, cv_agg]
        dsimp only
        rw [cut_cvl]
      · cases h
    | false =>
      rw [ha, cond_false] at h
      rw [cond_false, get_cvl, (chkS_spec h).1]; rfl
  · cases h
theorem eqBoolS_spec (hB : Base F ρ U) {x y : SV} : Spec F (eqBoolS x y) (fun g => ∃ a b, cv F ρ U x = .bool a ∧ cv F ρ U y = .bool b ∧ tv F ρ U g = (a == b)) := by
  unfold eqBoolS
  split
  · rename_i i j hx hy
    refine Spec.bnd (notS_spec hB) fun nj => (ite_tv hB).mono fun g h1 h2 => ⟨_, _, asB_spec hB hx, asB_spec hB hy, ?_⟩
    rw [h1, h2]
    cases tv F ρ U i <;> cases tv F ρ U j <;> rfl
  · exact Spec.non
theorem eqFieldsS_spec (hB : Base F ρ U) {P : Program} {go : TypeId → SV → SV → M Nat} {ge : TypeId → Value → Value → Option Bool} (hg : ∀ t x y, Spec F (go t x y) (fun g => ge t (cv F ρ U x) (cv F ρ U y) = some (tv F ρ U g))) {xs ys : List SV} :
    ∀ (fs : List Field), Spec F (eqFieldsS P go xs ys fs) (fun g => eqFields P ge (cvl F ρ U xs) (cvl F ρ U ys) fs = some (tv F ρ U g))
  | [] => Spec.ret (by rw [hB.t1]; rfl)
  | f :: r => by
    unfold eqFieldsS
    refine Spec.bif (fun _ => Spec.non) fun hn => Spec.bnd Spec.opt fun a => Spec.bnd Spec.opt fun b => Spec.bnd (hg _ a b) fun c => Spec.bnd (eqFieldsS_spec hB hg r) fun q => (andS_spec hB).mono fun g h1 h2 h3 h4 h5 => ?_
    unfold eqFields
    rw [hn, cond_false, partS_spec h5, partS_spec h4]
    dsimp only
    rw [h3]
    dsimp only
    rw [h2, h1]
theorem eqElemsS_spec (hB : Base F ρ U) {P : Program} {go : SV → SV → M Nat} {ge : Value → Value → Option Bool} (hg : ∀ x y, Spec F (go x y) (fun g => ge (cv F ρ U x) (cv F ρ U y) = some (tv F ρ U g))) {e : TypeId} {size : Nat} {xs ys : List SV} :
    ∀ (m i : Nat), Spec F (eqElemsS P go e size xs ys m i) (fun g => eqElems P ge e size (cvl F ρ U xs) (cvl F ρ U ys) m i = some (tv F ρ U g))
  | 0, i => Spec.ret (by rw [hB.t1]; rfl)
  | m + 1, i => by
    unfold eqElemsS
    refine Spec.bnd Spec.opt fun a => Spec.bnd Spec.opt fun b => Spec.bnd (hg a b) fun c => Spec.bnd (eqElemsS_spec hB hg m (i + 1)) fun q => (andS_spec hB).mono fun g h1 h2 h3 h4 h5 => ?_
    unfold eqElems
    rw [partS_spec h5, partS_spec h4]
    dsimp only
    rw [h3]
    dsimp only
    rw [h2, h1]
theorem eqSD_spec (hB : Base F ρ U) {P : Program} : ∀ (d : Nat) (t : TypeId) (x y : SV), Spec F (eqSD P d t x y) (fun g => eqD P d t (cv F ρ U x) (cv F ρ U y) = some (tv F ρ U g))
  | 0, _, _, _ => Spec.non
  | d + 1, t, x, y => by
    unfold eqSD
    split
    · rename_i hu
      refine (eqBoolS_spec hB).mono fun g ⟨a, b, h1, h2, h3⟩ => ?_
      unfold eqD
      simp only [hu]
      rw [h1, h2, h3]
    · rename_i k0 hu
      refine (eqCell_spec hB).mono fun g ⟨k, a, b, h1, h2, h3⟩ => ?_
      unfold eqD
      simp only [hu]
      rw [h1, h2, h3]
      dsimp only
      rw [decide_eq_true rfl]; rfl
    · rename_i fs hu
      split
      · rename_i xs ys
        refine Spec.bif (fun _ => Spec.non) fun hst => (eqFieldsS_spec hB (fun t x y => eqSD_spec hB d t x y) fs.toList).mono fun g h => ?_
        unfold eqD
        simp only [hu]
        rw [cv_agg, cv_agg]
        dsimp only
        rw [hst, cond_false]
        exact h
      · exact Spec.non
    · rename_i n e hu
      split
      · rename_i xs ys
        split
        · rename_i i hi
          refine (eqElemsS_spec hB (fun x y => eqSD_spec hB d e x y) n 0).mono fun g h => ?_
          unfold eqD
          simp only [hu]
          rw [cv_agg, cv_agg]
          dsimp only
          rw [hi]
          exact h
        · exact Spec.non
      · exact Spec.non
    · exact Spec.non
theorem aggES_spec (hB : Base F ρ U) {P : Program} {op : BinOp} {ty : TypeId} {xs ys : List SV} : Spec F (aggES P op ty xs ys) (fun r => aggE P op ty (cvl F ρ U xs) (cvl F ρ U ys) = some (cv F ρ U r)) := by
  unfold aggES
  refine Spec.bif (fun _ => Spec.non) fun hg => Spec.bnd (eqSD_spec hB 6 ty (.agg xs) (.agg ys)) fun g => ?_
  have hD : ∀ o, eqD P 6 ty (cv F ρ U (.agg xs)) (cv F ρ U (.agg ys)) = some (tv F ρ U g) → aggE P o ty (cvl F ρ U xs) (cvl F ρ U ys) = boolD o true (tv F ρ U g) := fun o h => by
    rw [cv_agg, cv_agg] at h
    unfold aggE
    rw [hg, cond_false, h]
  split
  · refine Spec.ret fun h => ?_
    rw [hD _ h, cv_b]
    cases tv F ρ U g <;> rfl
  · refine Spec.bnd (notS_spec hB) fun r => Spec.ret fun h1 h => ?_
    rw [hD _ h, cv_b, h1]
    cases tv F ρ U g <;> rfl
  · exact Spec.non
theorem aggS_spec (hB : Base F ρ U) {P : Program} {op : BinOp} {ty : TypeId} {xs ys : List SV} : Spec F (aggS P op ty xs ys) (fun r => aggD P op ty (cvl F ρ U xs) (cvl F ρ U ys) = some (cv F ρ U r)) := by
  unfold aggS
  split
  · rename_i n e h1
    split
    · rename_i k h2
      split
      · rename_i i h3
        refine Spec.gd fun hc => Spec.bnd (eqIntsS_spec hB xs ys) fun g => ?_
        have hD : ∀ o, aggD P o ty (cvl F ρ U xs) (cvl F ρ U ys) = boolD o true (eqInts (cvl F ρ U xs) (cvl F ρ U ys)) := fun o => by
          unfold aggD
          rw [h1]
          simp only [h2, h3, len_cvl]
          simp only [Bool.and_eq_true] at hc
          obtain ⟨⟨⟨⟨⟨c1, c2⟩, c3⟩, c4⟩, c5⟩, c6⟩ := hc
          rw [c1, allIntS_spec c2, allIntS_spec c3, c4, c5, c6]
          rfl
        split
        · refine Spec.ret fun h => ?_
          rw [hD, ← h, cv_b]
          cases tv F ρ U g <;> rfl
        · refine Spec.bnd (notS_spec hB) fun r => Spec.ret fun h1 h => ?_
          rw [hD, ← h, cv_b, h1]
          cases tv F ρ U g <;> rfl
        · exact Spec.non
      · exact Spec.non
    · rename_i h2
      refine aggES_spec hB |>.mono fun r h => ?_
      unfold aggD
      rw [h1]
      dsimp only
      split
      · rename_i k hk
        exact absurd hk (h2 k)
      · exact h
  · rename_i h1
    refine aggES_spec hB |>.mono fun r h => ?_
    unfold aggD
    split
    · rename_i n e hk
      exact absurd hk (h1 n e)
    · exact h

/-! ### operators -/
theorem litV_spec {v : Value} {s : SV} (h : litV v = some s) : cv F ρ U s = v := by
  unfold litV at h
  split at h
  · rw [force_eq] at h
    rename_i k z
    cases hc : canonB (.float k z) with
    | false => rw [hc] at h; cases h
    | true => rw [hc] at h; cases h; exact cv_lit _
  · cases hc : canonB v with
    | false => rw [hc] at h; cases h
    | true => rw [hc] at h; cases h; exact cv_lit _
theorem binL_spec {P : Program} {op : BinOp} {ty : TypeId} {a b : Value} {s : SV} (h : binL P op ty a b = some s) : binD P op ty a b = some (cv F ρ U s) := by
  unfold binL at h
  split at h
  · rename_i v hv
    rw [hv, litV_spec h]
  · cases h
theorem binB_spec (hB : Base F ρ U) {P : Program} {op : BinOp} {ty : TypeId} {x y : SV} : Spec F (binB P op ty x y) (fun r => binD P op ty (cv F ρ U x) (cv F ρ U y) = some (cv F ρ U r)) := by
  unfold binB
  split
  · rename_i i j hx hy
    rw [asB_spec hB hx, asB_spec hB hy]
    split
    · rename_i hu
      have hD : ∀ o a b, binD P o ty (.bool a) (.bool b) = boolD o a b := fun o a b => by
        unfold binD
        simp only [hu]
      split
      · refine Spec.bnd (notS_spec hB) fun nj => Spec.bnd (ite_tv hB) fun r => Spec.ret fun h1 h2 => ?_
        rw [hD, cv_b, h1, h2]
        cases tv F ρ U i <;> cases tv F ρ U j <;> rfl
      · refine Spec.bnd (notS_spec hB) fun nj => Spec.bnd (ite_tv hB) fun r => Spec.ret fun h1 h2 => ?_
        rw [hD, cv_b, h1, h2]
        cases tv F ρ U i <;> cases tv F ρ U j <;> rfl
      · exact Spec.non
    · exact Spec.non
  · exact Spec.non
theorem shr_val (P : Program) (ty : TypeId) (k' : IntKind) (a : Int) (n : Nat) (hn : n ≤ 31) (h0 : 0 ≤ a) (h1 : a < 4294967296) : binD P .shr ty (.int .u32 a) (.int k' (n : Int)) = some (.int .u32 (IntKind.u32.wrap (a.tdiv ((2 ^ n : Nat) : Int)))) := by
  have hm : min n 32 = n := by omega
  have e1 : Op.shift .shr .u32 a k' (n : Int) = pure (.int .u32 (a.fdiv (2 ^ n))) := by
    unfold Op.shift
    rw [if_neg (by omega)]
    simp only [Int.toNat_natCast, IntKind.bits, hm]
  have hp : ((2 ^ n : Nat) : Int) = 2 ^ n := by exact Int.natCast_pow 2 n
  have hpos : (0 : Int) < ((2 ^ n : Nat) : Int) := by have := Nat.two_pow_pos n; omega
  have e2 : a.fdiv (2 ^ n) = a / ((2 ^ n : Nat) : Int) := by rw [← hp, Int.fdiv_eq_ediv_of_nonneg _ (Int.le_of_lt hpos)]
  have e3 : a.tdiv ((2 ^ n : Nat) : Int) = a / ((2 ^ n : Nat) : Int) := Int.tdiv_eq_ediv_of_nonneg h0
  have b1 : 0 ≤ a / ((2 ^ n : Nat) : Int) := Int.ediv_nonneg h0 (Int.le_of_lt hpos)
  have b2 : a / ((2 ^ n : Nat) : Int) ≤ a := Int.ediv_le_self _ h0
  have e4 : IntKind.u32.wrap (a / ((2 ^ n : Nat) : Int)) = a / ((2 ^ n : Nat) : Int) := by
    generalize a / ((2 ^ n : Nat) : Int) = q at b1 b2
    unfold IntKind.wrap
    simp only [IntKind.signed, IntKind.bits]
    simp
    omega
  show rig (pureS P (Op.shift .shr .u32 a k' (n : Int))) = _
  rw [e1, e3, e4, e2]; rfl
theorem u32_in (z : Int) : 0 ≤ IntKind.u32.wrap z ∧ IntKind.u32.wrap z < 4294967296 := by
  unfold IntKind.wrap
  simp only [IntKind.signed, IntKind.bits]
  simp
  omega
theorem isShr_eq {op : BinOp} (h : isShr op = true) : op = .shr := by cases op <;> first | rfl | cases h
theorem shrS_spec {P : Program} {ty : TypeId} {i : Nat} {y : SV} : Spec F (shrS i y) (fun r => binD P .shr ty (.int .u32 (raw F ρ U i).z) (cv F ρ U y) = some (cv F ρ U r)) := by
  unfold shrS
  split
  · rename_i k' n
    refine Spec.gd fun hn => fun t r t' e hF => ?_
    cases hc : Nat.beq (opAt t i) 70 with
    | false => rw [hc] at e; cases e
    | true =>
      rw [hc, cond_true] at e
      refine Spec.via ((Spec.bnd (mkP_spec (ρ := ρ) (U := U) (by decide)) fun j => Spec.bnd (mk3_spec (ρ := ρ) (U := U)) fun r => Spec.ret fun h hj => ?_ : Spec F (bnd (mkP 0 (2 ^ n)) fun j => bnd (mk3 94 i j 0) fun r => ret (SV.n .u32 r)) (fun r => cv F ρ U r = .int .u32 (IntKind.u32.wrap ((raw F ρ U i).z.tdiv ((2 ^ n : Nat) : Int)))))) e hF fun h1 h2 => ?_
      · obtain ⟨p, hp⟩ := h
        rw [cv_n, hp, op94, hj, op0]; rfl
      · obtain ⟨g1, g2⟩ := opAt_spec (beqT hc) (by decide)
        have hr : 0 ≤ (raw F ρ U i).z ∧ (raw F ρ U i).z < 4294967296 := by
          rw [raw_at h1 g1]
          unfold nodeVal
          rw [g2, op70]
          exact u32_in _
        rw [h2, cv_lit]
        exact shr_val P ty k' _ n (Nat.le_of_ble_eq_true hn) hr.1 hr.2
  · exact Spec.non
theorem binI_spec (hB : Base F ρ U) {P : Program} {pc : PC} {op : BinOp} {ty : TypeId} {x y : SV} : Spec F (binI P pc op ty x y) (fun r => pcH F ρ U pc → binD P op ty (cv F ρ U x) (cv F ρ U y) = some (cv F ρ U r)) := by
  unfold binI
  split
  · rename_i k' hx hy
    refine Spec.bif (fun hs => Spec.bnd (asI_spec (ρ := ρ) (U := U) hx) fun i => (shrS_spec (ρ := ρ) (U := U) (P := P) (ty := ty)).mono fun r h1 h2 => ?_) fun _ => Spec.gd fun hk => Spec.bnd (asI_spec (ρ := ρ) (U := U) hx) fun i => Spec.bnd (asI_spec (ρ := ρ) (U := U) hy) fun j => (intS_spec hB (P := P) (ty := ty)).mono fun r h1 h2 h3 _ => ?_
    · rw [h2, isShr_eq hs]; exact fun _ => h1
    · rw [h2, h3, ← sameI_eq hk]
      exact h1
  · rename_i k k' _ hx hy
    refine Spec.gd fun hk => Spec.bnd (asI_spec (ρ := ρ) (U := U) hx) fun i => Spec.bnd (asI_spec (ρ := ρ) (U := U) hy) fun j => (intP_spec hB (P := P) (ty := ty)).mono fun r h1 h2 h3 hp => ?_
    rw [h2, h3, ← sameI_eq hk]
    exact h1 hp
  · exact (binB_spec hB).mono fun r h _ => h
theorem sameK_self (k : FloatKind) : sameK k k = true := by cases k <;> rfl
theorem binF_spec (hB : Base F ρ U) {P : Program} {pc : PC} {op : BinOp} {ty : TypeId} {x y : SV} : Spec F (binF P pc op ty x y) (fun r => pcH F ρ U pc → binD P op ty (cv F ρ U x) (cv F ρ U y) = some (cv F ρ U r)) := by
  unfold binF
  split
  · rename_i k k' hx hy
    refine Spec.gd fun hk => Spec.bnd (asF_spec (ρ := ρ) (U := U) hx) fun i => Spec.bnd (asF_spec (ρ := ρ) (U := U) hy) fun j => (floatP_spec hB).mono fun r h1 h2 h3 hp => ?_
    rw [h2, h3, ← sameK_eq hk]
    have := h1 hp
    unfold binD
    simp only [sameK_self, cond_true]
    exact this
  · exact binI_spec hB
theorem strEq_self (a : ByteArray) : strEq a a = true := beq_self_eq_true _
theorem strEq_comm (a b : ByteArray) : strEq a b = strEq b a := by
  unfold strEq
  rw [Bool.eq_iff_iff, beq_iff_eq, beq_iff_eq]
  exact eq_comm
theorem str_eql {P : Program} {t : TypeId} {a b : ByteArray} : binD P .eql t (.string a) (.string b) = some (.bool (strEq a b)) := rfl
theorem str_neq {P : Program} {t : TypeId} {a b : ByteArray} : binD P .neq t (.string a) (.string b) = some (.bool (!strEq a b)) := rfl
theorem strA_spec (i j : Nat) : Spec F (strA i j) (fun a => (raw F ρ U a).tr = strEq (strOf (raw F ρ U i).z) (strOf (raw F ρ U j).z)) := by
  unfold strA
  refine Spec.bif (fun _ => (mk3_spec (ρ := ρ) (U := U)).mono fun a h => ?_) fun _ => (mk3_spec (ρ := ρ) (U := U)).mono fun a h => ?_
  · obtain ⟨p, hp⟩ := h
    rw [hp, op62, Vl.tr_bif]
  · obtain ⟨p, hp⟩ := h
    rw [hp, op62, Vl.tr_bif, strEq_comm]
theorem strS_spec (hB : Base F ρ U) {P : Program} {op : BinOp} {ty : TypeId} {i j : Nat} : Spec F (strS op i j) (fun r => binD P op ty (cv F ρ U (.s i)) (cv F ρ U (.s j)) = some (cv F ρ U r)) := by
  unfold strS
  rw [cv_s, cv_s]
  split
  · refine Spec.bif (fun hb => Spec.ret ?_) fun _ => Spec.bnd (strA_spec (ρ := ρ) (U := U) i j) fun a => Spec.bnd (atomS_spec hB) fun r => Spec.ret fun h1 h2 => ?_
    · rw [str_eql, beqT hb, strEq_self, cv_b, hB.t1]
    · rw [str_eql, cv_b, h1, show tv F ρ U a = _ from h2]
  · refine Spec.bif (fun hb => Spec.ret ?_) fun _ => Spec.bnd (strA_spec (ρ := ρ) (U := U) i j) fun a => Spec.bnd (atomNot_spec hB) fun r => Spec.ret fun h1 h2 => ?_
    · rw [str_neq, beqT hb, strEq_self, cv_b, hB.t0]; rfl
    · rw [str_neq, cv_b, h1, show tv F ρ U a = _ from h2]
  · exact Spec.non
theorem noStr_cv {P : Program} {ty : TypeId} {x : SV} (h : noStr P ty x = true) : isStrA P ty (cv F ρ U x) = false := by
  cases x with
  | lit v => rw [cv_lit]; simpa [noStr] using h
  | agg l => rw [cv_agg]; simpa [noStr, isStrA] using h
  | b i => rw [cv_b]; rfl
  | f k i => rw [cv_f]; rfl
  | n k i => rw [cv_n]; rfl
  | ptr b o => rw [cv_ptr]; rfl
  | slice b o l c => rw [cv_slice]; rfl
  | func fn fs cs => rw [cv_func]; rfl
  | tuple l => rw [cv_tuple]; rfl
  | s i => rw [cv_s]; rfl
theorem binS_spec (hB : Base F ρ U) {P : Program} {pc : PC} {op : BinOp} {ty : TypeId} {x y : SV} : Spec F (binS P pc op ty x y) (fun r => pcH F ρ U pc → binD P op ty (cv F ρ U x) (cv F ρ U y) = some (cv F ρ U r)) := by
  unfold binS
  split
  · refine Spec.opt.mono fun r h _ => ?_
    rw [cv_lit, cv_lit]
    exact binL_spec h
  · refine (aggS_spec hB).mono fun r h _ => ?_
    rw [cv_agg, cv_agg]
    exact h
  · exact (strS_spec hB).mono fun r h _ => h
  · exact binF_spec hB
theorem unS_spec (hB : Base F ρ U) {P : Program} {op : UnOp} {x : SV} : Spec F (unS P op x) (fun r => unD P op (cv F ρ U x) = some (cv F ρ U r)) := by
  unfold unS
  split
  · refine Spec.opt.mono fun r h => ?_
    rw [cv_lit]
    unfold unL at h
    split at h
    · rename_i v hv
      rw [hv, litV_spec h]
    · cases h
  · split
    · refine Spec.bnd (notS_spec hB) fun r => Spec.ret fun h => ?_
      rw [cv_b, cv_b, h]
      rfl
    · exact Spec.non
  · rename_i k i
    split
    · refine Spec.bnd (mk3_spec (ρ := ρ) (U := U)) fun r => Spec.ret fun h => ?_
      obtain ⟨p, hp⟩ := h
      rw [cv_f, cv_f, hp]
      cases k <;> rfl
    · exact Spec.non
  · exact Spec.non
def fcvt (k k' : FloatKind) (a : Nat) : Value × Bool :=
  match k, k' with
  | .f32, .f64 => (.float .f64 (fcv .f32 .f64 a), true)
  | .f64, .f32 => (.float .f32 (fcv .f64 .f32 a), fcvOk .f64 .f32 a)
  | k, _ => (.float k a, true)
theorem fcvt_eq {P : Program} {s d : TypeId} {q k k' : FloatKind} {a : Nat} (hs : P.underlying s = some (.float q)) (hd : P.underlying d = some (.float k')) : cvD P s d (.float k a) = some (fcvt k k' a) := by
  cases k <;> cases k' <;> simp only [cvD, hs, hd, fcvt]
theorem cvF_spec {P : Program} {s d : TypeId} {q k k' : FloatKind} {i : Nat} (hs : P.underlying s = some (.float q)) (hd : P.underlying d = some (.float k')) :
    Spec F (cvF i k k') (fun r => cvD P s d (cv F ρ U (.f k i)) = some (cv F ρ U r, true)) := by
  rw [cv_f, fcvt_eq hs hd]
  unfold cvF
  split
  · refine Spec.bnd (mk3_spec (ρ := ρ) (U := U)) fun r => Spec.ret fun h => ?_
    obtain ⟨p, hp⟩ := h
    rw [cv_f, hp, op53]
    rfl
  · intro t r t' e hF
    dsimp only at e
    cases hc : (Nat.beq (opAt t i) 55 && Nat.beq (opAt t (aOf (nodeAt t i))) 53) with
    | false => rw [hc] at e; cases e
    | true =>
      rw [hc, cond_true] at e
      have key : Spec F (bnd (mk3 54 i 0 0) fun r => ret (SV.f .f32 r)) (fun r => cv F ρ U r = .float .f32 (fcv .f64 .f32 (raw F ρ U i).nat)) :=
        Spec.bnd (mk3_spec (ρ := ρ) (U := U)) fun r => Spec.ret fun h => by
          obtain ⟨p, hp⟩ := h
          rw [cv_f, hp, op54]
          rfl
      refine Spec.via (key) e hF fun h1 h2 => ?_
      rw [Bool.and_eq_true] at hc
      obtain ⟨a1, a2⟩ := opAt_spec (beqT hc.1) (by decide)
      obtain ⟨b1, b2⟩ := opAt_spec (beqT hc.2) (by decide)
      have e1 : raw F ρ U i = .i (fsqrt (raw F ρ U (aOf (nodeAt t i))).nat : Nat) := by
        rw [raw_at h1 a1]
        unfold nodeVal
        rw [a2, op55]
      have e2 : raw F ρ U (aOf (nodeAt t i)) = .i (fcv .f32 .f64 (raw F ρ U (aOf (nodeAt t (aOf (nodeAt t i))))).nat : Nat) := by
        rw [raw_at h1 b1]
        unfold nodeVal
        rw [b2, op53]
      show some (Value.float .f32 (fcv .f64 .f32 (raw F ρ U i).nat), fcvOk .f64 .f32 (raw F ρ U i).nat) = some (cv F ρ U r, true)
      have e3 : fcvOk .f64 .f32 (raw F ρ U i).nat = true := by
        rw [e1, Vl.nat_i, e2, Vl.nat_i]
        exact sqrt_narrow _
      rw [h2, e3]
  · rename_i h1 h2
    refine Spec.ret ?_
    rw [cv_f]
    cases k <;> cases k' <;> first | rfl | exact absurd rfl (h1 rfl) | exact absurd rfl (h2 rfl)
theorem pure_under {P : Program} {t : TypeId} {d : TypeDesc} {α : Type} {f : TypeDesc → Sem α} (h : P.underlying t = some d) : pureS P (underlying t >>= f) = pureS P (f d) := by
  have e : pureS P (underlying t >>= f) = pureS P (Sem.bind (match P.underlying t with | some d => pure d | none => stuck "no such type") f) := rfl
  rw [e, h]
  rfl
theorem cv_int {P : Program} {s d : TypeId} {q k k' : IntKind} {n : Int} (hs : P.underlying s = some (.int q)) (hd : P.underlying d = some (.int k')) : cvD P s d (.int k n) = some (.int k' (k'.wrap n), true) := by
  have h : pureS P (convert s d (.int k n)) = some (.int k' (k'.wrap n)) := by
    unfold convert
    rw [pure_under hs, pure_under hd]
    rfl
  unfold cvD
  simp only [h]
  rfl
theorem cv_nearest {P : Program} {s d : TypeId} {q k : IntKind} {k' : FloatKind} {n : Int} (hs : P.underlying s = some (.int q)) (hd : P.underlying d = some (.float k')) : cvD P s d (.int k n) = some (.float k' (k'.nearest n), true) := by
  have h : pureS P (convert s d (.int k n)) = some (.float k' (k'.nearest n)) := by
    unfold convert
    rw [pure_under hs, pure_under hd]
    rfl
  have hn : isN k' (k'.nearest n) = false := write_cn k' (d := .number (n < 0) n.natAbs 0) rfl
  unfold cvD
  simp only [h]
  have hc : canonB (.float k' (k'.nearest n)) = true := by
    show (!isN k' (k'.nearest n) || _) = true
    rw [hn]; rfl
  rw [hc, Bool.or_true]
theorem wrap64_32 (z : Int) : IntKind.i64.wrap (IntKind.i32.wrap z) = IntKind.i32.wrap z := by
  simp only [IntKind.wrap_i64, IntKind.wrap_i32]
  omega
theorem wrap_16 (z : Int) : IntKind.i16.wrap z = (z + 32768) % 65536 - 32768 := by
  simp [IntKind.wrap, IntKind.bits, IntKind.signed]
  omega
theorem wrap64_16 (z : Int) : IntKind.i64.wrap (IntKind.i16.wrap z) = IntKind.i16.wrap z := by
  simp only [IntKind.wrap_i64, wrap_16]
  omega
theorem wrap32_16 (z : Int) : IntKind.i32.wrap (IntKind.i16.wrap z) = IntKind.i16.wrap z := by
  simp only [IntKind.wrap_i32, wrap_16]
  omega
theorem fitsN_raw {t : Tab} {i : Nat} {k' : IntKind} (hF : Le t F) (h : fitsN (opAt t i) k' = true) : k'.wrap (raw F ρ U i).z = (raw F ρ U i).z := by
  have e5 : Nat.beq (opAt t i) 105 = true → raw F ρ U i = .i (IntKind.i16.wrap (raw F ρ U (aOf (nodeAt t i))).z) := fun e => by
    obtain ⟨a1, a2⟩ := opAt_spec (beqT e) (by decide)
    rw [raw_at hF a1]
    unfold nodeVal
    rw [a2, op105]
  have e6 : Nat.beq (opAt t i) 106 = true → raw F ρ U i = .i (IntKind.i32.wrap (raw F ρ U (aOf (nodeAt t i))).z) := fun e => by
    obtain ⟨a1, a2⟩ := opAt_spec (beqT e) (by decide)
    rw [raw_at hF a1]
    unfold nodeVal
    rw [a2, op106]
  cases k' with
  | i64 =>
    rcases Bool.or_eq_true _ _ |>.mp h with g | g
    · rw [e6 g]; exact wrap64_32 _
    · rw [e5 g]; exact wrap64_16 _
  | i32 => rw [e5 h]; exact wrap32_16 _
  | _ => cases h
theorem fitsT_raw {t : Tab} (hF : Le t F) : ∀ {k i : Nat}, fitsT k t i = true → IntKind.i64.wrap (raw F ρ U i).z = (raw F ρ U i).z
  | 0, _, h => by cases h
  | k + 1, i, h => by
    unfold fitsT at h
    cases h3 : Nat.beq (opAt t i) 3 with
    | true =>
      rw [h3, cond_true, Bool.and_eq_true] at h
      obtain ⟨g1, g2⟩ := opAt_spec (beqT h3) (by decide)
      have e : raw F ρ U i = if (raw F ρ U (aOf (nodeAt t i))).tr then raw F ρ U (bOf (nodeAt t i)) else raw F ρ U (cOf (nodeAt t i)) := by
        rw [raw_at hF g1]
        unfold nodeVal
        rw [g2]; rfl
      rw [e]
      by_cases hc : (raw F ρ U (aOf (nodeAt t i))).tr = true
      · rw [if_pos hc]; exact fitsT_raw hF h.1
      · rw [if_neg hc]; exact fitsT_raw hF h.2
    | false =>
      rw [h3, cond_false] at h
      cases h9 : Nat.beq (opAt t i) 112 with
      | true =>
        rw [h9, cond_true, Bool.and_eq_true] at h
        obtain ⟨g1, g2⟩ := opAt_spec (beqT h9) (by decide)
        rw [raw_at hF g1]
        unfold nodeVal
        rw [g2, op112]
        show IntKind.i64.wrap (if (raw F ρ U (aOf (nodeAt t i))).z < (raw F ρ U (bOf (nodeAt t i))).z then (raw F ρ U (aOf (nodeAt t i))).z else (raw F ρ U (bOf (nodeAt t i))).z) = if (raw F ρ U (aOf (nodeAt t i))).z < (raw F ρ U (bOf (nodeAt t i))).z then (raw F ρ U (aOf (nodeAt t i))).z else (raw F ρ U (bOf (nodeAt t i))).z
        split
        · exact fitsT_raw hF h.1
        · exact fitsT_raw hF h.2
      | false =>
      rw [h9, cond_false] at h
      rcases Bool.or_eq_true _ _ |>.mp h with h | h
      · obtain ⟨n1, n2⟩ := narrow_in (ρ := ρ) (U := U) hF h
        simp only [IntKind.wrap_i64]
        omega
      rcases Bool.or_eq_true _ _ |>.mp h with h | h
      · obtain ⟨g1, g2⟩ := opAt_spec (beqT h) (by decide)
        rw [raw_at hF g1]
        unfold nodeVal
        rw [g2]
        show IntKind.i64.wrap (IntKind.i64.wrap _) = IntKind.i64.wrap _
        simp only [IntKind.wrap_i64]
        omega
      · rw [Bool.and_eq_true] at h
        obtain ⟨g1, g2⟩ := opAt_spec (beqT h.1) (by decide)
        have hp := bltT h.2
        have e : (raw F ρ U i).z = (pOf (nodeAt t i) : Int) := by
          rw [raw_at hF g1]
          unfold nodeVal
          rw [g2]; rfl
        rw [e]
        simp only [IntKind.wrap_i64]
        omega
theorem cvN_spec {k' : IntKind} {i : Nat} : Spec F (cvN k' i) (fun r => cv F ρ U r = .int k' (k'.wrap (raw F ρ U i).z)) := by
  intro t r t' e hF
  unfold cvN at e
  have key : Spec F (bnd (mk3 (Nat.add 104 (ik k')) i 0 0) fun r => ret (SV.n k' r)) (fun r => cv F ρ U r = .int k' (k'.wrap (raw F ρ U i).z)) :=
    Spec.bnd (mk3_spec (ρ := ρ) (U := U)) fun r => Spec.ret fun h => by
      obtain ⟨p, hp⟩ := h
      rw [cv_n, hp]
      cases k' <;> rfl
  cases hc : (fitsN (opAt t i) k' || (isI64 k' && fitsT 40 t i)) with
  | false => rw [hc, cond_false] at e; exact key t r t' e hF
  | true =>
    rw [hc, cond_true] at e
    refine Spec.via (Spec.ret rfl : Spec F (ret (SV.n k' i)) (fun r => r = SV.n k' i)) e hF fun h1 h2 => ?_
    subst h2
    show cv F ρ U (SV.n k' i) = _
    rw [cv_n]
    rcases Bool.or_eq_true _ _ |>.mp hc with hc | hc
    · rw [fitsN_raw h1 hc]
    · rw [Bool.and_eq_true] at hc
      have hk : k' = .i64 := by
        have := hc.1
        cases k' <;> first | rfl | cases this
      rw [hk, fitsT_raw h1 hc.2]
theorem cvS_spec {P : Program} {s d : TypeId} {x : SV} : Spec F (cvS P s d x) (fun r => cvD P s d (cv F ρ U x) = some (cv F ρ U r, true)) := by
  unfold cvS
  split
  · refine Spec.opt.mono fun r h => ?_
    rw [cv_lit]
    unfold cvL at h
    split at h
    · rename_i v hv
      rw [hv, litV_spec h]
    · cases h
  · split
    · rename_i hs hd
      exact cvF_spec hs hd
    · exact Spec.non
  · rename_i k i
    split
    · rename_i q k' hs hd
      refine (cvN_spec (ρ := ρ) (U := U)).mono fun r h => ?_
      rw [h, cv_n, cv_int hs hd]
    · rename_i q k' hs hd
      refine Spec.bnd (mk3_spec (ρ := ρ) (U := U)) fun r => Spec.ret fun h => ?_
      obtain ⟨p, hp⟩ := h
      rw [cv_n, cv_f, hp, cv_nearest hs hd]
      cases k' <;> rfl
    · exact Spec.non
  · exact Spec.non

/-! ### the lesser, the greater -/
theorem finT_spec (hB : Base F ρ U) {pc : PC} {i : Nat} : Spec F (finT pc i) (fun _ => pcH F ρ U pc → finB (raw F ρ U i).nat = true) := by
  unfold finT
  refine Spec.bnd (mkP_spec (ρ := ρ) (U := U) (by decide)) fun z => Spec.bnd (cmpP_spec hB) fun g => Spec.bnd (needS_spec hB) fun _ => Spec.bnd (mkP_spec (ρ := ρ) (U := U) (by decide)) fun o => Spec.bnd (cmpP_spec hB) fun l => (needS_spec hB).mono fun _ h1 h2 h3 h4 h5 h6 hp => ?_
  have a1 := h4 hp
  have a2 := h1 hp
  rw [h5.2, h6, op0] at a1
  rw [h2.2, h3, op0] at a2
  exact share_fin a1 a2
theorem nnS_spec (hB : Base F ρ U) {pc : PC} : ∀ (k i : Nat), Spec F (nnS pc k i) (fun _ => pcH F ρ U pc → isN .f32 (raw F ρ U i).nat = false)
  | 0, _ => Spec.non
  | k + 1, i => fun t r t' e hF => by
    unfold nnS at e
    cases h0 : Nat.beq (opAt t i) 0 with
    | true =>
      rw [h0, cond_true] at e
      refine Spec.via ((Spec.gd fun hc => Spec.ret hc : Spec F (gd (!isN .f32 (pOf (nodeAt t i))) (ret ())) (fun _ => (!isN .f32 (pOf (nodeAt t i))) = true))) e hF fun h1 h2 => fun _ => ?_
      obtain ⟨h3, h4⟩ := opAt_spec (beqT h0) (by decide)
      rw [raw_at h1 h3]
      unfold nodeVal
      rw [h4, op0, Vl.nat_i]
      simpa using h2
    | false =>
    rw [h0, cond_false] at e
    cases h0 : Nat.beq (opAt t i) 17 with
    | true =>
      rw [h0, cond_true] at e
      refine Spec.via ((Spec.bnd (nnS_spec hB k _) fun _ => (finT_spec hB).mono fun _ a b hp => And.intro (b hp) (a hp) : Spec F (bnd (nnS pc k (aOf (nodeAt t i))) fun _ => finT pc (bOf (nodeAt t i))) (fun _ => pcH F ρ U pc → isN .f32 (raw F ρ U (aOf (nodeAt t i))).nat = false ∧ finB (raw F ρ U (bOf (nodeAt t i))).nat = true))) e hF fun h1 h2 => fun hp => ?_
      obtain ⟨h3, h4⟩ := opAt_spec (beqT h0) (by decide)
      rw [raw_at h1 h3]
      unfold nodeVal
      rw [h4, op17]
      exact sub_num (h2 hp).1 (h2 hp).2
    | false => rw [h0] at e; cases e
theorem isAr_spec {t : Tab} {i : Nat} (hF : Le t F) (h : isAr t i = true) : (raw F ρ U i).nat < 4294967296 ∧ cn .f32 (raw F ρ U i).nat = (raw F ρ U i).nat := by
  unfold isAr at h
  rw [Bool.and_eq_true] at h
  have h1 := Nat.le_of_ble_eq_true h.1
  have h2 := Nat.le_of_ble_eq_true h.2
  obtain ⟨h3, h4⟩ := opAt_spec (t := t) (i := i) rfl (by omega)
  rw [raw_at hF h3]
  unfold nodeVal
  rw [h4]
  have hc : opAt t i = 16 ∨ opAt t i = 17 ∨ opAt t i = 18 ∨ opAt t i = 19 := by omega
  obtain ⟨a1, a2, a3, a4⟩ := arith_ok (raw F ρ U (aOf (nodeAt t i))).nat (raw F ρ U (bOf (nodeAt t i))).nat
  rcases hc with e | e | e | e
  · rw [e, op16]; exact a1
  · rw [e, op17]; exact a2
  · rw [e, op18]; exact a3
  · rw [e, op19]; exact a4
theorem minF_spec (hB : Base F ρ U) {i j : Nat} : Spec F (minF i j) (fun r => cv F ρ U r = .float .f32 (fmin .f32 (raw F ρ U i).nat (raw F ρ U j).nat)) := fun t r t' e hF => by
  unfold minF at e
  cases hc : (constIs t j 1065353216 && isAr t i) with
  | false => rw [hc] at e; cases e
  | true =>
    rw [hc, cond_true] at e
    have key : Spec F (bnd (cmpO .gtr i j) fun c => bnd (selS 8 c j i) fun r => ret (SV.f .f32 r)) (fun r => cv F ρ U r = .float .f32 (bif fgt .f32 (raw F ρ U i).nat (raw F ρ U j).nat then (raw F ρ U j).nat else (raw F ρ U i).nat)) :=
      Spec.bnd (cmpO_spec hB) fun c => Spec.bnd (selS_spec hB 8 c j i) fun r => Spec.ret fun h1 h2 => by
        have h1 : raw F ρ U r = if (raw F ρ U c).tr then raw F ρ U j else raw F ρ U i := h1
        have h2 : (raw F ρ U c).tr = fgt .f32 (raw F ρ U i).nat (raw F ρ U j).nat := h2.2
        rw [cv_f, h1, h2]
        cases fgt .f32 (raw F ρ U i).nat (raw F ρ U j).nat <;> rfl
    refine Spec.via (key) e hF fun h1 h2 => ?_
    rw [Bool.and_eq_true] at hc
    obtain ⟨h5, h6⟩ := constIs_spec hc.1
    have h7 : raw F ρ U j = .i ((1065353216 : Nat) : Int) := by rw [raw_at h1 h5, h6]; rfl
    obtain ⟨h8, h9⟩ := isAr_spec (ρ := ρ) (U := U) h1 hc.2
    rw [h2, h7, Vl.nat_i, min_one h9 h8]
theorem maxF_spec (hB : Base F ρ U) {pc : PC} {i j : Nat} : Spec F (maxF pc i j) (fun r => pcH F ρ U pc → cv F ρ U r = .float .f32 (fmax .f32 (raw F ρ U i).nat (raw F ρ U j).nat)) := fun t r t' e hF => by
  unfold maxF at e
  cases hc : (constIs t j 0 && isAr t i) with
  | false => rw [hc] at e; cases e
  | true =>
    rw [hc, cond_true] at e
    have key : Spec F (bnd (nnS pc 6 i) fun _ => bnd (cmpZ .gtr i j) fun c => bnd (selS 8 c i j) fun r => ret (SV.f .f32 r)) (fun r => (pcH F ρ U pc → isN .f32 (raw F ρ U i).nat = false) ∧ cv F ρ U r = .float .f32 (bif fgt .f32 (raw F ρ U i).nat (raw F ρ U j).nat then (raw F ρ U i).nat else (raw F ρ U j).nat)) :=
      Spec.bnd (nnS_spec hB 6 i) fun _ => Spec.bnd (cmpZ_spec hB) fun c => Spec.bnd (selS_spec hB 8 c i j) fun r => Spec.ret fun h1 h2 h3 => ⟨h3, by
        have h1 : raw F ρ U r = if (raw F ρ U c).tr then raw F ρ U i else raw F ρ U j := h1
        have h2 : (raw F ρ U c).tr = fgt .f32 (raw F ρ U i).nat (raw F ρ U j).nat := h2.2
        rw [cv_f, h1, h2]
        cases fgt .f32 (raw F ρ U i).nat (raw F ρ U j).nat <;> rfl⟩
    refine Spec.via key e hF fun h1 h0 hp => ?_
    obtain ⟨h2, h3⟩ := h0
    rw [Bool.and_eq_true] at hc
    obtain ⟨h5, h6⟩ := constIs_spec hc.1
    have h7 : raw F ρ U j = .i ((0 : Nat) : Int) := by rw [raw_at h1 h5, h6]; rfl
    obtain ⟨h8, h9⟩ := isAr_spec (ρ := ρ) (U := U) h1 hc.2
    rw [h3, h7, Vl.nat_i, max_zero (h2 hp) h8]
theorem isHeld_spec {t : Tab} (hF : Le t F) {i j : Nat} (h : isHeld t i j = true) : decide ((raw F ρ U j).z < (raw F ρ U i).z) = decide ((raw F ρ U j).z < (raw F ρ U (cOf (nodeAt t i))).z) := by
  unfold isHeld at h
  rw [force_eq, force_eq] at h
  simp only [Bool.and_eq_true, Bool.not_eq_true'] at h
  obtain ⟨h1, h2, h3, h4, h5, h6, h7, h8⟩ := h
  obtain ⟨g1, g2⟩ := opAt_spec (beqT h1) (by decide)
  obtain ⟨g3, g4⟩ := opAt_spec (beqT h2) (by decide)
  have l1 := isC_lt (ρ := ρ) (U := U) hF h6 h4
  have l2 := isC_lt (ρ := ρ) (U := U) hF h6 h5
  rw [h7] at l1
  rw [h8] at l2
  have l1 := of_decide_eq_false l1
  have l2 := of_decide_eq_false l2
  have e : raw F ρ U i = if (raw F ρ U (aOf (nodeAt t i))).tr then raw F ρ U (bOf (nodeAt t i)) else raw F ρ U (cOf (nodeAt t i)) := by
    rw [raw_at hF g1]
    unfold nodeVal
    rw [g2, op3]
  have e2 : (raw F ρ U (aOf (nodeAt t i))).tr = decide ((raw F ρ U (cOf (nodeAt t i))).z < (raw F ρ U (bOf (nodeAt t (aOf (nodeAt t i))))).z) := by
    rw [raw_at hF g3]
    unfold nodeVal
    rw [g4, op57, Vl.tr_bif, beqT h3]
  rw [e]
  by_cases hc : (raw F ρ U (aOf (nodeAt t i))).tr = true
  · rw [if_pos hc]
    rw [e2, decide_eq_true_eq] at hc
    rw [decide_eq_false l1, decide_eq_false (by omega)]
  · rw [if_neg hc]
theorem selB_spec (hB : Base F ρ U) {i j : Nat} {v : SV} : Spec F (selB i j v) (fun r => ∀ b, cv F ρ U v = .bool b → cv F ρ U r = .int .i64 (if b then (raw F ρ U j).z else (raw F ρ U i).z)) := by
  unfold selB
  refine Spec.bnd Spec.opt fun d => Spec.bnd (ite_spec hB) fun r => Spec.ret fun h1 h2 b hb => ?_
  rw [asB_spec hB h2] at hb
  simp only [Value.bool.injEq] at hb
  rw [cv_n, h1]
  have hb : (raw F ρ U d).tr = b := hb
  rw [hb]
  cases b <;> rfl
theorem minI_spec (hB : Base F ρ U) {i j : Nat} : Spec F (minI i j) (fun r => cv F ρ U r = .int .i64 (if (raw F ρ U j).z < (raw F ρ U i).z then (raw F ρ U j).z else (raw F ρ U i).z)) := fun t r t' e hF => by
  unfold minI at e
  cases hc : isC t j with
  | false => rw [hc] at e; cases e
  | true =>
    rw [hc, cond_true] at e
    have fin : ∀ (a b : Int) (q : Bool), (bif true then q else !q) = decide (a < b) → Value.int .i64 (if (bif true then q else !q) then a else b) = .int .i64 (if a < b then a else b) := fun a b q h => by
      rw [h]
      by_cases hab : a < b
      · rw [if_pos hab, if_pos (decide_eq_true hab)]
      · rw [if_neg hab, if_neg (by rw [decide_eq_false hab]; decide)]
    cases hh : isHeld t i j with
    | true =>
      rw [hh, cond_true] at e
      refine Spec.via ((Spec.bnd (ltI_spec hB) fun v => (selB_spec hB).mono fun r h1 h2 => h1 _ h2 : Spec F (bnd (ltI j (cOf (nodeAt t i)) true) (selB i j)) (fun r => cv F ρ U r = .int .i64 (if (bif true then decide ((raw F ρ U j).z < (raw F ρ U (cOf (nodeAt t i))).z) else !decide ((raw F ρ U j).z < (raw F ρ U (cOf (nodeAt t i))).z)) then (raw F ρ U j).z else (raw F ρ U i).z)))) e hF fun h1 h2 => ?_
      exact h2.trans (fin _ _ _ (isHeld_spec h1 hh).symm)
    | false =>
      rw [hh, cond_false] at e
      exact Spec.via ((Spec.bnd (ltI_spec hB) fun v => (selB_spec hB).mono fun r h1 h2 => (h1 _ h2).trans (fin _ _ _ rfl) : Spec F (bnd (ltI j i true) (selB i j)) (fun r => cv F ρ U r = .int .i64 (if (raw F ρ U j).z < (raw F ρ U i).z then (raw F ρ U j).z else (raw F ρ U i).z)))) e hF fun h1 h2 => h2
theorem maxI_spec (hB : Base F ρ U) {i j : Nat} : Spec F (maxI i j) (fun r => cv F ρ U r = .int .i64 (if (raw F ρ U j).z > (raw F ρ U i).z then (raw F ρ U j).z else (raw F ρ U i).z)) := fun t r t' e hF => by
  unfold maxI at e
  cases hc : isC t j with
  | false => rw [hc] at e; cases e
  | true =>
    rw [hc, cond_true] at e
    refine Spec.via ((Spec.bnd (ltI_spec hB) fun v => (selB_spec hB).mono fun r h1 h2 => h1 _ h2 : Spec F (bnd (ltI i j true) (selB i j)) (fun r => cv F ρ U r = .int .i64 (if (bif true then decide ((raw F ρ U i).z < (raw F ρ U j).z) else !decide ((raw F ρ U i).z < (raw F ρ U j).z)) then (raw F ρ U j).z else (raw F ρ U i).z)))) e hF fun h1 h2 => ?_
    refine h2.trans ?_
    rw [cond_true]
    by_cases hab : (raw F ρ U i).z < (raw F ρ U j).z
    · rw [if_pos (decide_eq_true hab), if_pos hab]
    · rw [if_neg (by rw [decide_eq_false hab]; decide), if_neg hab]
theorem mmI_spec (hB : Base F ρ U) {up : Bool} {x y : SV} : Spec F (mmI up x y) (fun r => mmD up (cv F ρ U x) (cv F ρ U y) = some (cv F ρ U r)) := by
  unfold mmI
  split
  · rename_i hx hy
    have hD : ∀ a b, mmD up (.int .i64 a) (.int .i64 b) = some (.int .i64 (bif up then (if b > a then b else a) else (if b < a then b else a))) := fun a b => rfl
    refine Spec.bnd (asI_spec (ρ := ρ) (U := U) hx) fun i => Spec.bnd (asI_spec (ρ := ρ) (U := U) hy) fun j => Spec.bif (fun hu => (maxI_spec hB).mono fun r h1 h2 h3 => ?_) fun hu => (minI_spec hB).mono fun r h1 h2 h3 => ?_
    · rw [h2, h3, hD, hu, cond_true, h1]
    · rw [h2, h3, hD, hu, cond_false, h1]
  · rename_i hx hy
    refine Spec.gd fun hu => Spec.bnd (asI_spec (ρ := ρ) (U := U) hx) fun i => Spec.bnd (asI_spec (ρ := ρ) (U := U) hy) fun j => Spec.bnd (mk3_spec (ρ := ρ) (U := U)) fun r => Spec.ret fun h1 h4 h5 => ?_
    have hup : up = false := by cases up <;> first | rfl | cases hu
    subst hup
    obtain ⟨p, hp⟩ := h1
    rw [h5, h4, cv_n, hp, op112]
    show some (Value.int .i32 (if (raw F ρ U j).z < (raw F ρ U i).z then (raw F ρ U j).z else (raw F ρ U i).z)) = some (Value.int .i32 (if (raw F ρ U i).z < (raw F ρ U j).z then (raw F ρ U i).z else (raw F ρ U j).z))
    by_cases hab : (raw F ρ U i).z < (raw F ρ U j).z
    · rw [if_neg (by omega), if_pos hab]
    · rw [if_neg hab]
      by_cases hba : (raw F ρ U j).z < (raw F ρ U i).z
      · rw [if_pos hba]
      · rw [if_neg hba, show (raw F ρ U i).z = (raw F ρ U j).z by omega]
  · exact Spec.non
theorem mmS_spec (hB : Base F ρ U) {pc : PC} {up : Bool} {x y : SV} : Spec F (mmS pc up x y) (fun r => pcH F ρ U pc → mmD up (cv F ρ U x) (cv F ρ U y) = some (cv F ρ U r)) := by
  unfold mmS
  split
  · refine Spec.opt.mono fun r h _ => ?_
    rw [cv_lit, cv_lit]
    unfold mmL at h
    split at h
    · rename_i v hv
      rw [hv, litV_spec h]
    · cases h
  · split
    · rename_i hx hy
      have hD : ∀ a b, mmD up (.float .f32 a) (.float .f32 b) = some (.float .f32 (bif up then fmax .f32 a b else fmin .f32 a b)) := fun a b => rfl
      refine Spec.bnd (asF_spec (ρ := ρ) (U := U) hx) fun i => Spec.bnd (asF_spec (ρ := ρ) (U := U) hy) fun j => Spec.bif (fun hu => (maxF_spec hB).mono fun r h1 h2 h3 hp => ?_) fun hu => (minF_spec hB).mono fun r h1 h2 h3 hp => ?_
      · rw [h2, h3, hD, hu, cond_true, h1 hp]
      · rw [h2, h3, hD, hu, cond_false, h1]
    · exact (mmI_spec hB).mono fun r h _ => h
end
end Sx
end
noncomputable section
namespace Sx
open Go Ev

section
variable {F : Tab} {ρ : Nat → Int} {U : Nat → Vl → Vl}
variable [Frn] [SFrn]

/-! ### parts, memory -/
theorem row_hpc (h : HeapS) (b : Nat) : (hpc F ρ U h).getD b none = (h.getD b none).map (cvl F ρ U) := by
  unfold hpc
  rw [List.getD_eq_getElem?_getD, List.getD_eq_getElem?_getD, List.getElem?_map]
  cases h[b]? with
  | none => rfl
  | some r => rfl
theorem loadS_spec {P : Program} {chk : Nat → Bool} {h : HeapS} {ty : TypeId} {a x : SV} (e : loadS P chk h ty a = some x) : loadD P chk (hpc F ρ U h) ty (cv F ρ U a) = some (cv F ρ U x) := by
  unfold loadS at e
  split at e
  · rename_i b o
    rw [cv_ptr]
    unfold loadD
    cases hc : chk b with
    | false => rw [hc] at e; cases e
    | true =>
      rw [hc, cond_true] at e
      simp only [hc, cond_true, row_hpc]
      split at e
      · rename_i cs hr
        rw [hr]
        simp only [Option.map_some]
        split at e
        · rename_i d hd
          rw [hd]
          dsimp only
          cases ha : isAggD d with
          | true =>
            rw [ha, cond_true] at e
            rw [cond_true]
            split at e
            · rename_i i hi
              rw [hi]
              dsimp only
              rw [len_cvl]
              cases hl : Nat.ble (o + i.size) cs.length with
              | false => rw [hl] at e; cases e
              | true =>
                rw [hl, cond_true] at e
                cases e
                rw [cond_true, cv_agg, cut_cvl]
            · cases e
          | false =>
            rw [ha, cond_false] at e
            rw [cond_false, get_cvl, (chkS_spec e).1]; rfl
        · cases e
      · cases e
  · cases e
/-- the cells of what came in are told by the table -/
structure FrnR (F : Tab) (ρ : Nat → Int) (U : Nat → Vl → Vl) : Prop where
  rows : ∀ k, Frn.row k = cvl F ρ U (SFrn.row k)
  cons : ∀ f g, SFrn.con f = some g → ∃ G, Frn.con f = some G ∧ ∀ pc args h, Spec F (g pc args h) (fun v => pcH F ρ U pc → G (cvl F ρ U args) (hpc F ρ U h) = some (cv F ρ U v, [], true))
theorem loadFS_spec (hf : FrnR F ρ U) {P : Program} {chk : Nat → Bool} {h : HeapS} {ty : TypeId} {a x : SV} (e : loadFS P chk h ty a = some x) : loadD P chk (hpc F ρ U h) ty (cv F ρ U a) = some (cv F ρ U x) := by
  unfold loadFS at e
  split at e
  · rename_i k o sp
    rw [cv_lit]
    unfold loadD
    dsimp only
    rw [hf.rows k]
    split at e
    · rename_i d hd
      rw [hd]
      dsimp only
      cases ha : isAggD d with
      | true =>
        rw [ha, cond_true] at e
        rw [cond_true]
        split at e
        · rename_i i hi
          rw [hi]
          dsimp only
          rw [len_cvl]
          cases hl : Nat.ble (o + i.size) (SFrn.row k).length with
          | false => rw [hl] at e; cases e
          | true =>
            rw [hl, cond_true] at e
            cases e
            rw [cond_true, cv_agg, cut_cvl]
        · cases e
      | false =>
        rw [ha, cond_false] at e
        rw [cond_false, get_cvl, (chkS_spec e).1]; rfl
    · cases e
  · exact loadS_spec e
theorem loadS_ty {P : Program} {chk : Nat → Bool} {h : HeapS} {ty : TypeId} {a x : SV} (e : loadS P chk h ty a = some x) (d : TypeDesc) (hu : P.underlying ty = some d) : tyB d (cv F ρ U x) = true := by
  unfold loadS at e
  split at e
  · rename_i b o
    cases hc : chk b with
    | false => rw [hc] at e; cases e
    | true =>
      rw [hc, cond_true] at e
      split at e
      · rw [hu] at e
        dsimp only at e
        cases ha : isAggD d with
        | true => exact tyB_agg ha _
        | false =>
          rw [ha, cond_false] at e
          exact kS_ty (chkS_spec e).2
      · cases e
  · cases e
theorem loadFS_ty {P : Program} {chk : Nat → Bool} {h : HeapS} {ty : TypeId} {a x : SV} (e : loadFS P chk h ty a = some x) (d : TypeDesc) (hu : P.underlying ty = some d) : tyB d (cv F ρ U x) = true := by
  unfold loadFS at e
  split at e
  · rw [hu] at e
    dsimp only at e
    cases ha : isAggD d with
    | true => exact tyB_agg ha _
    | false =>
      rw [ha, cond_false] at e
      exact kS_ty (chkS_spec e).2
  · exact loadS_ty e d hu
/-- an answer that holds -/
def okF : Option (Value × Bool) → Option Value
  | some (v, true) => some v
  | _ => none
theorem okF_some {o : Option (Value × Bool)} {v : Value} (h : okF o = some v) : o = some (v, true) := by
  unfold okF at h
  split at h
  · cases h; rfl
  · cases h
theorem scalarS_spec {x : SV} (h : scalarS x = true) : scalarB (cv F ρ U x) = true := by
  cases x with
  | lit v => rw [cv_lit]; exact h
  | b i => rw [cv_b]; rfl
  | f k i => rw [cv_f]; rfl
  | n k i => rw [cv_n]; rfl
  | s i => rw [cv_s]; rfl
  | ptr b o => rw [cv_ptr]; rfl
  | slice b o l c => rw [cv_slice]; rfl
  | func fn fs cs => rw [cv_func]; rfl
  | agg l => cases h
  | tuple l => cases h
theorem setRow_spec (cs vs : List SV) (o : Nat) : setRow (cvl F ρ U cs) o (cvl F ρ U vs) = cvl F ρ U (setRowS cs o vs) := by
  unfold setRow setRowS cvl
  rw [List.map_append, List.map_append, List.map_take, List.map_drop, List.length_map]
theorem storeS_spec {P : Program} {chk : Nat → Bool} {h : HeapS} {ty : TypeId} {a x : SV} {b : Nat} {cs : List SV} (e : storeS P chk h ty a x = some (b, cs)) : storeD P chk (hpc F ρ U h) ty (cv F ρ U a) (cv F ρ U x) = some (b, cvl F ρ U cs) := by
  unfold storeS at e
  split at e
  · rename_i b' o
    rw [cv_ptr]
    unfold storeD
    cases hc : chk b' with
    | false => rw [hc] at e; cases e
    | true =>
      rw [hc, cond_true] at e
      simp only [hc, cond_true, row_hpc]
      split at e
      · rename_i row hr
        rw [hr]
        simp only [Option.map_some]
        split at e
        · rename_i i hi
          rw [hi]
          simp only [← cells_spec (F := F) (ρ := ρ) (U := U), len_cvl]
          cases hl : (Nat.beq x.cells.length i.size && x.cells.all scalarS && Nat.ble (o + x.cells.length) row.length) with
          | false => rw [hl] at e; cases e
          | true =>
            rw [hl, cond_true] at e
            cases e
            simp only [Bool.and_eq_true] at hl
            obtain ⟨⟨h1, h2⟩, h3⟩ := hl
            have h4 : (cvl F ρ U x.cells).all scalarB = true := by
              rw [List.all_eq_true] at h2 ⊢
              intro y hy
              obtain ⟨z, hz, rfl⟩ := List.mem_map.1 hy
              exact scalarS_spec (h2 z hz)
            rw [h1, h3, h4, setRow_spec]
            rfl
        · cases e
      · cases e
  · cases e
theorem idxS_spec {P : Program} {ty : TypeId} {x ix r : SV} (e : idxS P ty x ix = some r) : idxD P ty (cv F ρ U x) (cv F ρ U ix) = some (cv F ρ U r) := by
  unfold idxS at e
  split at e
  · rename_i k i
    split at e
    · rename_i len elem cs hu
      rw [cv_lit, cv_agg]
      unfold idxD
      simp only [hu]
      split at e
      · rename_i inf hi
        rw [hi]
        dsimp only
        cases hb : (decide (0 ≤ i) && decide (i < len)) with
        | false => rw [hb] at e; cases e
        | true =>
          rw [hb, cond_true] at e
          rw [cond_true]
          exact partS_spec e
      · cases e
    · cases e
  · cases e
theorem idxFS_spec {P : Program} {ty : TypeId} {x ix r : SV} (e : idxS P ty x ix = some r) : idxF P ty (cv F ρ U x) (cv F ρ U ix) = some (cv F ρ U r, true) := by
  refine idxF_of (idxS_spec e) fun len elem d hu hd => ?_
  unfold idxS at e
  split at e
  · rename_i k i
    split at e
    · rename_i len' elem' cs hu'
      rw [hu] at hu'
      cases hu'
      split at e
      · rename_i inf hi
        cases hb : (decide (0 ≤ i) && decide (i < len)) with
        | false => rw [hb] at e; cases e
        | true =>
          rw [hb, cond_true] at e
          exact partS_ty e d hd
      · cases e
    · cases e
  · cases e
theorem idxAddrS_spec {P : Program} {ty : TypeId} {x ix r : SV} (e : idxAddrS P ty x ix = some r) : idxAddrD P ty (cv F ρ U x) (cv F ρ U ix) = some (cv F ρ U r) := by
  unfold idxAddrS at e
  split at e
  · rename_i k i
    split at e
    · rename_i len elem b o hu
      rw [cv_lit, cv_ptr]
      unfold idxAddrD
      simp only [hu]
      split at e
      · rename_i inf hi
        rw [hi]
        dsimp only
        cases hb : (decide (0 ≤ i) && decide (i < len)) with
        | false => rw [hb] at e; cases e
        | true =>
          rw [hb, cond_true] at e
          cases e
          rw [cond_true, cv_ptr]
          rfl
      · cases e
    · rename_i elem b o len c hu
      rw [cv_lit, cv_slice]
      unfold idxAddrD
      simp only [hu]
      split at e
      · rename_i inf hi
        rw [hi]
        dsimp only
        cases hb : (decide (0 ≤ i) && decide (i < len)) with
        | false => rw [hb] at e; cases e
        | true =>
          rw [hb, cond_true] at e
          cases e
          rw [cond_true, cv_ptr]
          rfl
      · cases e
    · rename_i elem kk sp len c hu
      rw [cv_lit, cv_lit]
      unfold idxAddrD
      simp only [hu]
      split at e
      · rename_i inf hi
        rw [hi]
        dsimp only
        cases hb : (decide (0 ≤ i) && decide (i < len)) with
        | false => rw [hb] at e; cases e
        | true =>
          rw [hb, cond_true] at e
          cases e
          rw [cv_lit]
          rfl
      · cases e
    · rename_i elem kk oo sp len c hu
      rw [cv_lit, cv_lit]
      unfold idxAddrD
      simp only [hu]
      split at e
      · rename_i inf hi
        rw [hi]
        dsimp only
        cases hb : (decide (0 ≤ i) && decide (i < len)) with
        | false => rw [hb] at e; cases e
        | true =>
          rw [hb, cond_true] at e
          cases e
          rw [cv_lit]
          rfl
      · cases e
    · rename_i len elem kk o z hu
      rw [cv_lit, cv_lit]
      unfold idxAddrD
      simp only [hu]
      split at e
      · rename_i inf hi
        rw [hi]
        dsimp only
        cases hb : (decide (0 ≤ i) && decide (i < len)) with
        | false => rw [hb] at e; cases e
        | true =>
          rw [hb, cond_true] at e
          cases e
          rw [cv_lit]
          rfl
      · cases e
    · cases e
  · cases e
theorem optLit_spec {o : Option SV} {v : Option Value} (h : optLit o = some v) : o.map (cv F ρ U) = v := by
  unfold optLit at h
  split at h
  · cases h; rfl
  · cases h; rw [Option.map_some, cv_lit]
  · cases h
theorem sliceS_spec {P : Program} {ty : TypeId} {x r : SV} {lo hi : Option SV} (e : sliceS P ty x lo hi = some r) : sliceD P ty (cv F ρ U x) (lo.map (cv F ρ U)) (hi.map (cv F ρ U)) = some (cv F ρ U r) := by
  unfold sliceS at e
  split at e
  · rename_i lo' hi' h1 h2
    rw [optLit_spec h1, optLit_spec h2]
    split at e
    · rename_i n el b o hu
      rw [cv_ptr]
      unfold sliceD
      simp only [hu]
      split at e
      · rename_i l h hb
        rw [hb]
        dsimp only
        split at e
        · rename_i i hi
          rw [hi]
          cases e
          rw [cv_slice]
        · cases e
      · cases e
    · rename_i el b o len cap hu
      rw [cv_slice]
      unfold sliceD
      simp only [hu]
      split at e
      · rename_i l h hb
        rw [hb]
        dsimp only
        split at e
        · rename_i i hi
          rw [hi]
          dsimp only
          cases ho : okSl cap l i.size with
          | false => rw [ho] at e; cases e
          | true =>
            rw [ho] at e
            cases e
            rw [cv_slice, cond_true]
        · cases e
      · cases e
    · rename_i el k o z len cap hu
      rw [cv_lit]
      unfold sliceD
      simp only [hu]
      split at e
      · rename_i l h hb
        rw [hb]
        dsimp only
        split at e
        · rename_i i hi
          rw [hi]
          cases e
          rw [cv_lit]
        · cases e
      · cases e
    · cases e
  · cases e
theorem lenS_spec {P : Program} {ty : TypeId} {x r : SV} (e : lenS P ty x = some r) : lenD P ty (cv F ρ U x) = some (cv F ρ U r) := by
  unfold lenS at e
  split at e
  · rename_i s hu
    cases e
    rw [cv_lit, cv_lit]
    unfold lenD
    simp only [hu]
  · rename_i n el y hu
    cases e
    rw [cv_lit]
    unfold lenD
    simp only [hu]
  · rename_i el b o n c hu
    cases e
    rw [cv_slice, cv_lit]
    unfold lenD
    simp only [hu]
  · rename_i el a n c hu
    cases e
    rw [cv_lit, cv_lit]
    unfold lenD
    simp only [hu]
  · cases e
theorem fieldS_spec {P : Program} {ty : TypeId} {x r : SV} {f : Nat} (e : fieldS P ty x f = some r) : fieldD P ty (cv F ρ U x) f = some (cv F ρ U r) := by
  unfold fieldS at e
  split at e
  · rename_i fs cs hu
    rw [cv_agg]
    unfold fieldD
    simp only [hu]
    split at e
    · rename_i fd hf
      rw [hf]
      exact partS_spec e
    · cases e
  · cases e
theorem fieldFS_spec {P : Program} {ty : TypeId} {x r : SV} {f : Nat} (e : fieldS P ty x f = some r) : fieldF P ty (cv F ρ U x) f = some (cv F ρ U r, true) := by
  refine fieldF_of (fieldS_spec e) fun fs fd d hu hf hd => ?_
  unfold fieldS at e
  split at e
  · rename_i fs' cs hu'
    rw [hu] at hu'
    cases hu'
    rw [hf] at e
    exact partS_ty e d hd
  · cases e
theorem fieldAddrS_spec {P : Program} {ty : TypeId} {x r : SV} {f : Nat} (e : fieldAddrS P ty x f = some r) : fieldAddrD P ty (cv F ρ U x) f = some (cv F ρ U r) := by
  unfold fieldAddrS at e
  split at e
  · rename_i fs b o hu
    rw [cv_ptr]
    unfold fieldAddrD
    simp only [hu]
    split at e
    · rename_i fd hf
      rw [hf]
      dsimp only
      split at e
      · rename_i i hi
        rw [hi]
        dsimp only
        cases hz : Nat.beq i.size 0 with
        | true => rw [hz] at e; cases e
        | false =>
          rw [hz, cond_false] at e
          cases e
          rw [cond_false, cv_ptr]
          rfl
      · cases e
    · cases e
  · rename_i fs kk o z hu
    rw [cv_lit]
    unfold fieldAddrD
    simp only [hu]
    split at e
    · rename_i fd hf
      rw [hf]
      dsimp only
      split at e
      · rename_i i hi
        rw [hi]
        dsimp only
        cases hz : Nat.beq i.size 0 with
        | true => rw [hz] at e; cases e
        | false =>
          rw [hz, cond_false] at e
          cases e
          rw [cond_false, cv_lit]
      · cases e
    · cases e
  · cases e
abbrev prts (F : Tab) (ρ : Nat → Int) (U : Nat → Vl → Vl) (l : List (Nat × SV)) : List (Nat × Value) := l.map fun q => (q.1, cv F ρ U q.2)
theorem fillS_spec {place : Nat → Option (Nat × Nat)} : ∀ {parts : List (Nat × SV)} {cells r : List SV}, fillS place cells parts = some r → fillD place (cvl F ρ U cells) (prts F ρ U parts) = some (cvl F ρ U r)
  | [], _, _, e => by cases e; rfl
  | (i, v) :: rest, cells, r, e => by
    unfold fillS at e
    show (match place i with | none => none | some (off, size) => _) = _
    split at e
    · cases e
    · rename_i off size hp
      try rw [hp]
      simp only [← cells_spec (F := F) (ρ := ρ) (U := U), len_cvl]
      cases hb : (Nat.beq v.cells.length size && Nat.ble (off + v.cells.length) cells.length) with
      | false => rw [hb] at e; cases e
      | true =>
        rw [hb, cond_true] at e
        rw [cond_true, setRow_spec]
        exact fillS_spec e
theorem buildS_spec {P : Program} {ty : TypeId} {parts : List (Nat × SV)} {r : SV} (e : buildS P ty parts = some r) : buildD P ty (prts F ρ U parts) = some (cv F ρ U r) := by
  unfold buildS at e
  unfold buildD
  split at e
  · rename_i inf hi
    rw [hi]
    dsimp only
    split at e
    · rename_i z hz
      rw [hz]
      dsimp only
      cases hc : z.cells.toList.all canonB with
      | false => rw [hc] at e; cases e
      | true =>
        rw [hc, cond_true] at e
        rw [cond_true]
        split at e
        · rename_i fs hu
          rw [hu]
          dsimp only
          split at e
          · rename_i pl hp
            rw [hp]
            dsimp only
            cases hf : fillS (fun i => pl[i]?) (z.cells.toList.map .lit) parts with
            | none => rw [hf] at e; cases e
            | some q =>
              rw [hf] at e
              cases e
              have := fillS_spec (F := F) (ρ := ρ) (U := U) hf
              rw [map_lit] at this
              rw [this, cv_agg]
              rfl
          · cases e
        · rename_i n el hu
          rw [hu]
          dsimp only
          split at e
          · rename_i i hp
            rw [hp]
            dsimp only
            cases hf : fillS (fun j => some (j * i.size, i.size)) (z.cells.toList.map .lit) parts with
            | none => rw [hf] at e; cases e
            | some q =>
              rw [hf] at e
              cases e
              have := fillS_spec (F := F) (ρ := ρ) (U := U) hf
              rw [map_lit] at this
              rw [this, cv_agg]
              rfl
          · cases e
        · cases e
    · cases e
  · cases e
theorem rowS_spec {P : Program} {ty : TypeId} {len : Nat} {parts : List (Nat × SV)} {r : List SV} (e : rowS P ty len parts = some r) : rowD P ty len (prts F ρ U parts) = some (cvl F ρ U r) := by
  unfold rowS at e
  unfold rowD
  split at e
  · rename_i el hu
    rw [hu]
    dsimp only
    split at e
    · rename_i i hi
      rw [hi]
      dsimp only
      cases h1 : Nat.ble (len * i.size) 16777216 with
      | false => rw [h1] at e; cases e
      | true =>
        rw [h1, cond_true] at e
        rw [cond_true]
        cases h2 : Nat.beq (len * i.size) 0 with
        | true =>
          rw [h2, cond_true] at e
          rw [cond_true]
          exact fillS_spec e
        | false =>
          rw [h2, cond_false] at e
          rw [cond_false]
          split at e
          · rename_i z hz
            rw [hz]
            dsimp only
            cases h3 : (z.cells.toList.all canonB && Nat.beq (z.cells.size) i.size && Nat.blt 0 z.cells.size) with
            | false => rw [h3] at e; cases e
            | true =>
              rw [h3, cond_true] at e
              rw [cond_true]
              have := fillS_spec (F := F) (ρ := ρ) (U := U) e
              rw [map_lit] at this
              exact this
          · cases e
    · cases e
  · cases e

/-! ### calls -/
theorem len_hpc (h : HeapS) : (hpc F ρ U h).length = h.length := List.length_map ..
theorem flatS_spec (x : SV) : flatB (cv F ρ U x) = flatS x := by
  cases x with
  | lit v => rw [cv_lit]; rfl
  | b i => rw [cv_b]; rfl
  | f k i => rw [cv_f]; rfl
  | n k i => rw [cv_n]; rfl
  | s i => rw [cv_s]; rfl
  | ptr b o => rw [cv_ptr]; rfl
  | slice b o l c => rw [cv_slice]; rfl
  | func fn fs cs => rw [cv_func]; rfl
  | agg l => rw [cv_agg]; rfl
  | tuple l => rw [cv_tuple]; rfl
theorem all_cvl {p : Value → Bool} {q : SV → Bool} (h : ∀ x, p (cv F ρ U x) = q x) : ∀ (l : List SV), (cvl F ρ U l).all p = l.all q
  | [] => rfl
  | x :: r => by rw [cvl_cons, List.all_cons, List.all_cons, h, all_cvl h r]
theorem flatT_spec (x : SV) : (match cv F ρ U x with | .agg cs => cs.toList.all flatB | v => flatB v) = flatT x := by
  cases x with
  | lit v =>
    rw [cv_lit]
    cases v <;> rfl
  | b i => rw [cv_b]; rfl
  | f k i => rw [cv_f]; rfl
  | n k i => rw [cv_n]; rfl
  | s i => rw [cv_s]; rfl
  | ptr b o => rw [cv_ptr]; rfl
  | slice b o l c => rw [cv_slice]; rfl
  | func fn fs cs => rw [cv_func]; rfl
  | agg l => rw [cv_agg]; exact all_cvl flatS_spec l
  | tuple l => rw [cv_tuple]; rfl
theorem empty_cvl (l : List SV) : (cvl F ρ U l).isEmpty = l.isEmpty := by cases l <;> rfl
theorem plainS_spec (x : SV) : plainB (cv F ρ U x) = plainS x := by
  cases x with
  | lit v => rw [cv_lit]; rfl
  | b i => rw [cv_b]; rfl
  | f k i => rw [cv_f]; rfl
  | n k i => rw [cv_n]; rfl
  | s i => rw [cv_s]; rfl
  | ptr b o => rw [cv_ptr]; rfl
  | slice b o l c => rw [cv_slice]; rfl
  | func fn fs cs =>
    rw [cv_func]
    show ((cvl F ρ U fs).isEmpty && (cvl F ρ U cs).isEmpty) = _
    rw [empty_cvl, empty_cvl]; rfl
  | agg l => rw [cv_agg]; exact all_cvl flatS_spec l
  | tuple l => rw [cv_tuple]; exact all_cvl flatT_spec l
theorem lowS_spec (n : Nat) (x : SV) : lowV n (cv F ρ U x) = lowS n x := by
  cases x with
  | lit v => rw [cv_lit]; rfl
  | b i => rw [cv_b]; rfl
  | f k i => rw [cv_f]; rfl
  | n k i => rw [cv_n]; rfl
  | s i => rw [cv_s]; rfl
  | ptr b o => rw [cv_ptr]; rfl
  | slice b o l c => rw [cv_slice]; rfl
  | func fn fs cs =>
    rw [cv_func]
    show ((cvl F ρ U fs).isEmpty && (cvl F ρ U cs).isEmpty) = _
    rw [empty_cvl, empty_cvl]; rfl
  | agg l => rw [cv_agg]; rfl
  | tuple l => rw [cv_tuple]; rfl
theorem lowH_spec (n : Nat) : ∀ (h : HeapS), lowH n (hpc F ρ U h) = h.all (lowR n)
  | [] => rfl
  | none :: r => by
    show (true && lowH n (hpc F ρ U r)) = (true && r.all (lowR n))
    rw [lowH_spec n r]
  | some cs :: r => by
    show ((cvl F ρ U cs).all (lowV n) && lowH n (hpc F ρ U r)) = (cs.all (lowS n) && r.all (lowR n))
    rw [lowH_spec n r, all_cvl (lowS_spec n)]
theorem take_hpc (n : Nat) (h : HeapS) : (hpc F ρ U h).take n = hpc F ρ U (h.take n) := List.map_take.symm
theorem cutHS_spec (n : Nat) (h : HeapS) : (bif lowH n ((hpc F ρ U h).take n) then (hpc F ρ U h).take n else hpc F ρ U h) = hpc F ρ U (cutHS n h) := by
  unfold cutHS
  rw [take_hpc, lowH_spec]
  cases (h.take n).all (lowR n) <;> rfl
/-- a heap that has no more blocks need not be cut -/
theorem cutH_eq (v : Value) (n : Nat) (h : Heap) : cutH v n h = bif plainB v && lowH n (h.take n) then h.take n else h := by
  unfold cutH
  cases hl : Nat.ble h.length n with
  | false => rw [cond_false]
  | true =>
    rw [cond_true, List.take_of_length_le (Nat.le_of_ble_eq_true hl)]
    cases (plainB v && lowH n h) <;> rfl
/-- what is kept of a heap -/
def KeepR (F : Tab) (ρ : Nat → Int) (U : Nat → Vl → Vl) (keep : Keep) (h' : Heap) (h : HeapS) : Prop :=
  match keep with
  | .no => True
  | .full => h' = hpc F ρ U h
  | .cut n => (bif lowH n (h'.take n) then h'.take n else h') = hpc F ρ U h
theorem KeepR.of {keep : Keep} {h : HeapS} : KeepR F ρ U keep (hpc F ρ U h) (keepH keep h) := by
  cases keep with
  | no => trivial
  | full => rfl
  | cut n => exact cutHS_spec n h
structure EnvR (F : Tab) (ρ : Nat → Int) (U : Nat → Vl → Vl) (E : EnvS) (Ee : Env) : Prop where
  P : Ee.P = E.P
  rd : Ee.rd = E.rd
  stb : Ee.stb = false
  frn : FrnR F ρ U
  ext0 : ∀ id, E.ext id = none → Ee.ext id = none
  ext1 : ∀ id e, E.ext id = some e → ∀ pc args, Spec F (e pc args) (fun v => pcH F ρ U pc → ∃ G, Ee.ext id = some G ∧ G (cvl F ρ U args) = some (cv F ρ U v, true))
  call : ∀ keep pc f args h, Spec F (E.call keep pc f args h) (fun r => pcH F ρ U pc → ∃ h', Ee.call f (cvl F ρ U args) (hpc F ρ U h) = some (cv F ρ U r.1, h', true) ∧ KeepR F ρ U keep h' r.2)
theorem EnvR.at {E : EnvS} {Ee : Env} (h : EnvR F ρ U E Ee) (b : Bool) : EnvR F ρ U (E.at b) (Ee.at b) := ⟨h.P, rfl, h.stb, h.frn, h.ext0, h.ext1, h.call⟩
theorem rowEqS_spec {a b : Option (List SV)} (h : rowEqS a b = true) : a.map (cvl F ρ U) = b.map (cvl F ρ U) := by
  unfold rowEqS at h
  split at h
  · rfl
  · show some (cvl F ρ U _) = some (cvl F ρ U _)
    rw [show cvl F ρ U _ = cvl F ρ U _ from allEq_spec (fun x y e => eqSV_spec 4 e) h]
  · cases h
theorem heapEqS_spec : ∀ {a b : HeapS}, heapEqS a b = true → hpc F ρ U a = hpc F ρ U b ∧ a.length = b.length
  | [], [], _ => ⟨rfl, rfl⟩
  | x :: r, y :: s, h => by
    rw [heapEqS, Bool.and_eq_true] at h
    obtain ⟨h1, h2⟩ := heapEqS_spec h.2
    refine ⟨?_, congrArg (· + 1) h2⟩
    unfold hpc at h1 ⊢
    rw [List.map_cons, List.map_cons, h1]
    exact congrArg (· :: _) (rowEqS_spec h.1)
  | [], _ :: _, h => by cases h
  | _ :: _, [], h => by cases h
theorem keep_same {h h' : HeapS} {g : Heap} (hk : KeepR F ρ U (.cut h.length) g h') (he : heapEqS h h' = true) : g.take (hpc F ρ U h).length = hpc F ρ U h := by
  obtain ⟨h1, h2⟩ := heapEqS_spec (F := F) (ρ := ρ) (U := U) he
  rw [len_hpc]
  have hk : (bif lowH h.length (g.take h.length) then g.take h.length else g) = hpc F ρ U h' := hk
  cases hl : lowH h.length (g.take h.length) with
  | true => rw [hl] at hk; rw [h1]; exact hk
  | false =>
    rw [hl] at hk
    have hk : g = hpc F ρ U h' := hk
    rw [hk, ← h1]
    rw [List.take_of_length_le]
    rw [len_hpc]
    exact Nat.le_refl _
def wsc (F : Tab) (ρ : Nat → Int) (U : Nat → Vl → Vl) : WS → W
  | .no => .no
  | .at_ b cs => .at_ b (cvl F ρ U cs)
  | .all h => .all (hpc F ρ U h)
structure AnsR (F : Tab) (ρ : Nat → Int) (U : Nat → Vl → Vl) (r : Option SV × WS) (q : OpRes) : Prop where
  ok : q.ok = true
  v : ∀ v, r.1 = some v → q.val = cv F ρ U v ∧ q.g = true
  w : q.w = wsc F ρ U r.2
theorem callHS_spec {E : EnvS} {Ee : Env} (hE : EnvR F ρ U E Ee) {pc : PC} {draw : Bool} {h : HeapS} {id : FuncId} {args : List SV} :
    Spec F (callHS E pc draw h id args) (fun r => pcH F ρ U pc → ∃ q, callH Ee draw (hpc F ρ U h) id (cvl F ρ U args) true = some q ∧ AnsR F ρ U r q) := by
  unfold callHS
  refine Spec.bif (fun hd => Spec.gd fun hr => Spec.bnd (hE.call (.cut h.length) pc id _ h) fun r => Spec.bif (fun hv => Spec.gd fun he => Spec.ret fun h1 hp => ?_) fun _ => Spec.bnd (hE.call .full pc id _ h) fun r' => Spec.gd fun hv => Spec.ret fun h1 _ hp => ?_)
    fun hd => Spec.bnd (hE.call (.cut h.length) pc id _ h) fun r => Spec.bif (fun hv => Spec.ret fun h1 hp => ?_) fun _ => Spec.bnd (hE.call .full pc id _ h) fun r' => Spec.gd fun hv => Spec.ret fun h1 _ hp => ?_
  · obtain ⟨h', g1, g2⟩ := h1 hp
    unfold callH
    have hv' : plainB (cv F ρ U r.1) = true := (plainS_spec _).trans hv
    have hs : addF Ee.stb (hpc F ρ U h) h' = true := addF_of (keep_same g2 he)
    have hrd : Ee.rd = true := hE.rd.trans hr
    simp only [g1, hd, cond_true, hrd, hs, hv', Bool.and_self]
    exact ⟨_, rfl, ⟨rfl, fun w hw => by cases hw; exact ⟨rfl, rfl⟩, rfl⟩⟩
  · obtain ⟨h', g1, g2⟩ := h1 hp
    rw [Bool.and_eq_true] at hv
    unfold callH
    have hv' : plainB (cv F ρ U r'.1) = false := (plainS_spec _).trans (by simpa using hv.1)
    have g2 : h' = hpc F ρ U r'.2 := g2
    have hse : h'.take (hpc F ρ U h).length = hpc F ρ U h := by
      rw [g2, len_hpc, take_hpc, ← (heapEqS_spec (F := F) (ρ := ρ) (U := U) hv.2).1]
    have hrd : Ee.rd = true := hE.rd.trans hr
    have hs := addF_of (b := Ee.stb) hse
    have hm := more_eq hse
    simp only [g1, hd, cond_true, hrd, hs, hv', cond_false, Bool.and_self]
    exact ⟨_, rfl, ⟨rfl, fun w hw => by cases hw; exact ⟨rfl, rfl⟩, congrArg W.all (hm.trans g2)⟩⟩
  · obtain ⟨h', g1, g2⟩ := h1 hp
    unfold callH
    have hv' : plainB (cv F ρ U r.1) = true := (plainS_spec _).trans hv
    simp only [g1, hd, cond_false, hE.stb]
    refine ⟨_, rfl, ⟨rfl, fun w hw => by cases hw; exact ⟨rfl, rfl⟩, ?_⟩⟩
    show W.all (cutH _ _ _) = W.all _
    rw [cutH_eq]
    rw [hv', Bool.true_and, len_hpc]
    exact congrArg W.all g2
  · obtain ⟨h', g1, g2⟩ := h1 hp
    unfold callH
    have hv' : plainB (cv F ρ U r'.1) = false := (plainS_spec _).trans (by simpa using hv)
    simp only [g1, hd, cond_false, hE.stb]
    refine ⟨_, rfl, ⟨rfl, fun w hw => by cases hw; exact ⟨rfl, rfl⟩, ?_⟩⟩
    show W.all (cutH _ _ _) = W.all _
    rw [cutH_eq]
    rw [hv', Bool.false_and, cond_false]
    exact congrArg W.all g2
theorem callS_spec {E : EnvS} {Ee : Env} (hE : EnvR F ρ U E Ee) {pc : PC} {draw : Bool} {h : HeapS} {f : SV} {args : List SV} :
    Spec F (callS E pc draw h f args) (fun r => pcH F ρ U pc → ∃ q, callD Ee draw (hpc F ρ U h) (cv F ρ U f) (cvl F ρ U args) true = some q ∧ AnsR F ρ U r q) := by
  unfold callS
  split
  · rename_i id fs cs
    have hargs : (cvl F ρ U fs).toArray.toList ++ cvl F ρ U args ++ (cvl F ρ U cs).toArray.toList = cvl F ρ U (fs ++ args ++ cs) := by
      unfold cvl
      rw [List.map_append, List.map_append]
    split
    · rename_i e he
      refine Spec.bnd (hE.ext1 id e he pc _) fun v => Spec.ret fun h1 hp => ?_
      obtain ⟨G, g1, g2⟩ := h1 hp
      rw [cv_func]
      unfold callD
      simp only [g1, hargs, g2]
      exact ⟨_, rfl, ⟨rfl, fun w hw => by cases hw; exact ⟨rfl, rfl⟩, rfl⟩⟩
    · rename_i he
      have h0 := hE.ext0 id he
      refine Spec.bif (fun hpl => ?_) fun hpl => (callHS_spec hE).mono fun r h1 hp => ?_
      · refine Spec.bnd (hE.call .no pc id _ []) fun r => Spec.bif (fun hv => Spec.ret fun h1 hp => ?_) fun hv0 => (callHS_spec hE).mono fun r' h2 h1 hp => ?_
        · obtain ⟨h', g1, _⟩ := h1 hp
          rw [cv_func]
          unfold callD
          have hpl' : (cvl F ρ U (fs ++ args ++ cs)).all plainB = true := (all_cvl plainS_spec _).trans hpl
          have g1 : Ee.call id (cvl F ρ U (fs ++ args ++ cs)) [] = _ := g1
          have hv' : plainB (cv F ρ U r.1) = true := (plainS_spec _).trans hv
          simp only [h0, hargs, hpl', cond_true, g1, hv']
          exact ⟨_, rfl, ⟨rfl, fun w hw => by cases hw; exact ⟨rfl, rfl⟩, rfl⟩⟩
        · obtain ⟨h', g1, _⟩ := h1 hp
          obtain ⟨q, e1, e2⟩ := h2 hp
          rw [cv_func]
          unfold callD
          have hpl' : (cvl F ρ U (fs ++ args ++ cs)).all plainB = true := (all_cvl plainS_spec _).trans hpl
          have g1 : Ee.call id (cvl F ρ U (fs ++ args ++ cs)) [] = _ := g1
          have hv1 : plainB (cv F ρ U r.1) = false := (plainS_spec _).trans hv0
          simp only [h0, hargs, hpl', cond_true, g1, hv1, cond_false]
          exact ⟨q, e1, e2⟩
      · obtain ⟨q, e1, e2⟩ := h1 hp
        rw [cv_func]
        unfold callD
        have hpl' : (cvl F ρ U (fs ++ args ++ cs)).all plainB = false := (all_cvl plainS_spec _).trans hpl
        simp only [h0, hargs, hpl', cond_false]
        exact ⟨q, e1, e2⟩
  · exact Spec.non
end
theorem FrnR.no {F : Tab} {ρ : Nat → Int} {U : Nat → Vl → Vl} : @FrnR noFrn noSFrn F ρ U :=
  @FrnR.mk noFrn noSFrn F ρ U (fun _ => rfl) fun _ _ h => by
    have h : (none : Option (List (Nat × Bool) → List SV → HeapS → M SV)) = some _ := h
    cases h
end Sx
end
noncomputable section
namespace Sx
open Go Ev

section
variable {F : Tab} {ρ : Nat → Int} {U : Nat → Vl → Vl}
variable [Frn] [SFrn]

/-! ### one operation -/
theorem freshS_spec (h : HeapS) (nid : Nat) : freshB (hpc F ρ U h) nid = freshS h nid := by
  unfold freshB freshS
  rw [len_hpc, row_hpc]
  cases h.getD nid none <;> rfl
/-- what an operation of the state does -/
abbrev OpR (F : Tab) (ρ : Nat → Int) (U : Nat → Vl → Vl) (Ee : Env) (pc : PC) (draw : Bool) (chk : Nat → Bool) (nid : Nat) (tm : TmS) (h : HeapS) (o : Op) (r : Option SV × WS) : Prop :=
  ∀ st, StR F ρ U ⟨tm, h⟩ st → pcH F ρ U pc → ∃ q, opD Ee draw chk nid st.tmps st.heap o = some q ∧ AnsR F ρ U r q
theorem ansV {v : SV} : AnsR F ρ U (some v, .no) ⟨cv F ρ U v, true, .no, true⟩ := ⟨rfl, fun w hw => by cases hw; exact ⟨rfl, rfl⟩, rfl⟩
theorem fst_all {tm : List (Value × Bool)} {l : List Operand} {m : List Value} (h : l.map (evl tm) = m.map fun v => (v, true)) : (l.map fun x => (evl tm x).1) = m ∧ (l.all fun x => (evl tm x).2) = true := by
  induction l generalizing m with
  | nil =>
    cases m with
    | nil => exact ⟨rfl, rfl⟩
    | cons a b => cases h
  | cons x r ih =>
    cases m with
    | nil => cases h
    | cons a b =>
      rw [List.map_cons, List.map_cons] at h
      injection h with h1 h2
      obtain ⟨h3, h4⟩ := ih h2
      exact ⟨by rw [List.map_cons, h1, h3], by rw [List.all_cons, h1, h4]; rfl⟩
theorem parts_spec {tm : List (Value × Bool)} : ∀ {parts : List (Nat × Operand)} {m : List SV}, ((parts.map (·.2)).map (evl tm) = (cvl F ρ U m).map fun v => (v, true)) →
    (parts.map fun p => (p.1, (evl tm p.2).1)) = prts F ρ U (zipP (parts.map (·.1)) m) ∧ (parts.all fun p => (evl tm p.2).2) = true
  | [], [], _ => ⟨rfl, rfl⟩
  | [], _ :: _, h => by cases h
  | _ :: _, [], h => by cases h
  | p :: r, x :: m, h => by
    rw [List.map_cons, List.map_cons, cvl_cons, List.map_cons] at h
    injection h with h1 h2
    obtain ⟨h3, h4⟩ := parts_spec h2
    refine ⟨?_, by rw [List.all_cons, h1, h4]; rfl⟩
    rw [List.map_cons, h1, h3]
    rfl
theorem oOne_spec (hB : Base F ρ U) {Ee : Env} {pc : PC} {draw : Bool} {chk : Nat → Bool} {nid : Nat} {tm : TmS} {h : HeapS} {o : Op} {x : Operand} {f : SV → M SV} {G : Value → Option (Value × Bool)}
    (hf : ∀ a, Spec F (f a) (fun r => pcH F ρ U pc → G (cv F ρ U a) = some (cv F ρ U r, true)))
    (ho : ∀ t a v, evl t x = (a, true) → G a = some (v, true) → opD Ee draw chk nid t (hpc F ρ U h) o = some ⟨v, true, .no, true⟩) :
    Spec F (oOne f pc tm x) (OpR F ρ U Ee pc draw chk nid tm h o) :=
  Spec.bnd (rdS_spec hB) fun a => Spec.bnd (hf a) fun r => Spec.ret fun h1 h2 st hs hp => by
    rw [show st.heap = hpc F ρ U h from hs.hp]
    exact ⟨_, ho _ _ _ (h2 h st hs hp) (h1 hp), ansV⟩
theorem oTwo_spec (hB : Base F ρ U) {Ee : Env} {pc : PC} {draw : Bool} {chk : Nat → Bool} {nid : Nat} {tm : TmS} {h : HeapS} {o : Op} {x y : Operand} {f : SV → SV → M SV} {G : Value → Value → Option Value}
    (hf : ∀ a b, Spec F (f a b) (fun r => pcH F ρ U pc → G (cv F ρ U a) (cv F ρ U b) = some (cv F ρ U r)))
    (ho : ∀ t a b v, evl t x = (a, true) → evl t y = (b, true) → G a b = some v → opD Ee draw chk nid t (hpc F ρ U h) o = some ⟨v, true, .no, true⟩) :
    Spec F (oTwo f pc tm x y) (OpR F ρ U Ee pc draw chk nid tm h o) :=
  Spec.bnd (rdS_spec hB) fun a => Spec.bnd (rdS_spec hB) fun b => Spec.bnd (hf a b) fun r => Spec.ret fun h1 h2 h3 st hs hp => by
    rw [show st.heap = hpc F ρ U h from hs.hp]
    exact ⟨_, ho _ _ _ _ (h3 h st hs hp) (h2 h st hs hp) (h1 hp), ansV⟩
theorem optG {α : Type} {o : Option α} {Q : α → Prop} (h : ∀ a, o = some a → Q a) : Spec F (opt o) Q := Spec.opt.mono h
abbrev tt (o : Option Value) : Option (Value × Bool) := o.map fun v => (v, true)
theorem tt_some {o : Option Value} {v : Value} (h : tt o = some (v, true)) : o = some v := by
  cases o with
  | none => cases h
  | some w => cases h; rfl
theorem pickV_bool (c x y : Bool) : pickV c (.bool x) (.bool y) = some (.bool (bif c then x else y), true) := rfl
theorem pickV_some {s : Bool} {a b : Value} {x : Bool} (h : (bif s then a else b) = .bool x) : ∃ v k, pickV s a b = some (v, k) ∧ k = true ∧ v = .bool x := by
  cases s with
  | true =>
    rw [cond_true] at h
    subst h
    cases b <;> exact ⟨_, _, rfl, rfl, rfl⟩
  | false =>
    rw [cond_false] at h
    subst h
    cases a <;> exact ⟨_, _, rfl, rfl, rfl⟩
theorem pick_key {Ee : Env} {draw : Bool} {chk : Nat → Bool} {nid : Nat} {t : List (Value × Bool)} {h : Heap} {c a b : Operand} {s : Bool} {x : Bool} (hc : evl t c = (.bool s, true)) (hs : (bif s then evl t a else evl t b) = (.bool x, true)) :
    opD Ee draw chk nid t h (.pick c a b) = some ⟨.bool x, true, .no, true⟩ := by
  have hv : (bif s then (evl t a).1 else (evl t b).1) = .bool x := by cases s <;> exact congrArg Prod.fst hs
  have hg : (bif s then (evl t a).2 else (evl t b).2) = true := by cases s <;> exact congrArg Prod.snd hs
  obtain ⟨v, k, h1, h2, h3⟩ := pickV_some hv
  unfold opD
  simp only [hc, h1, hg, h2, h3]
  rfl
theorem pickS_spec (hB : Base F ρ U) {Ee : Env} {pc : PC} {draw : Bool} {chk : Nat → Bool} {nid : Nat} {tm : TmS} {h : HeapS} {c a b : Operand} : Spec F (pickS pc tm c a b) (OpR F ρ U Ee pc draw chk nid tm h (.pick c a b)) := by
  unfold pickS
  refine Spec.bnd (rdS_spec hB) fun cc => Spec.bnd (optB hB) fun s => Spec.bif (fun h1 => ?_) fun _ => Spec.bif (fun h1 => ?_) fun _ => ?_
  · refine Spec.bnd (rdS_spec hB) fun v => Spec.bnd (optB hB) fun i => Spec.ret fun k1 k2 k3 k4 st hs hp => ?_
    have e1 := k4 h st hs hp
    rw [k3, beqT h1, hB.t1] at e1
    have e2 := k2 h st hs hp
    rw [k1] at e2
    exact ⟨_, pick_key e1 e2, by rw [← cv_b]; exact ansV⟩
  · refine Spec.bnd (rdS_spec hB) fun v => Spec.bnd (optB hB) fun i => Spec.ret fun k1 k2 k3 k4 st hs hp => ?_
    have e1 := k4 h st hs hp
    rw [k3, beqT h1, hB.t0] at e1
    have e2 := k2 h st hs hp
    rw [k1] at e2
    exact ⟨_, pick_key e1 e2, by rw [← cv_b]; exact ansV⟩
  · unfold pickT
    refine Spec.bnd (rdS_spec hB) fun va => Spec.bnd (rdS_spec hB) fun vb => Spec.bnd (optB hB) fun i => Spec.bnd (optB hB) fun j => Spec.bnd (ite_tv hB) fun r => Spec.ret fun k1 k2 k3 k4 k5 k6 k7 st hs hp => ?_
    have e1 := k7 h st hs hp
    rw [k6] at e1
    have e2 : (bif tv F ρ U s then evl st.tmps a else evl st.tmps b) = (.bool (tv F ρ U r), true) := by
      rw [k1]
      cases hc : tv F ρ U s with
      | true =>
        rw [cond_true, cond_true, k5 h st hs (hp.cons hc), k3]
      | false =>
        rw [cond_false, cond_false, k4 h st hs (hp.cons hc), k2]
    exact ⟨_, pick_key e1 e2, by rw [← cv_b]; exact ansV⟩
theorem rdO_spec (hB : Base F ρ U) {pc : PC} {tm : TmS} (o : Option Operand) : Spec F (rdO pc tm o) (fun v => ∀ h st, StR F ρ U ⟨tm, h⟩ st → pcH F ρ U pc → (o.map fun y => (evl st.tmps y).1) = v.map (cv F ρ U) ∧ (o.toList.all fun y => (evl st.tmps y).2) = true) := by
  cases o with
  | none => exact Spec.ret fun _ _ _ _ => ⟨rfl, rfl⟩
  | some x =>
    refine Spec.bnd (rdS_spec hB) fun v => Spec.ret fun h1 h st hs hp => ?_
    have := h1 h st hs hp
    exact ⟨by rw [Option.map_some, this]; rfl, by simp [this]⟩
theorem invS_spec {E : EnvS} {Ee : Env} (hE : EnvR F ρ U E Ee) {pc : PC} {name : String} {l : List SV} {x : SV} :
    Spec F (invS E pc name l x) (fun r => pcH F ρ U pc → ∃ q, invD Ee (cv F ρ U x) name (cvl F ρ U l) true = some q ∧ AnsR F ρ U r q) := by
  unfold invS
  split
  · rename_i v
    split
    · rename_i f rc hm
      refine Spec.gd fun hc => ?_
      unfold invT
      split
      · exact Spec.non
      · rename_i he
        have h0 := hE.ext0 f he
        refine Spec.bnd (hE.call .no pc f [.lit (.agg #[])] []) fun r => Spec.gd fun hv => Spec.ret fun h1 hp => ?_
        obtain ⟨h', g1, _⟩ := h1 hp
        have g1 : Ee.call f [cv F ρ U (.lit (.agg #[]))] [] = _ := g1
        rw [cv_lit] at g1
        have hv' : plainB (cv F ρ U r.1) = true := (plainS_spec _).trans hv
        have hl : (cvl F ρ U l).isEmpty = l.isEmpty := empty_cvl l
        rw [cv_lit]
        unfold invD
        rw [hE.P, hm]
        simp only [hl, hc, cond_true, h0, g1, hv']
        exact ⟨_, rfl, ⟨rfl, fun w hw => by cases hw; exact ⟨rfl, rfl⟩, rfl⟩⟩
    · exact Spec.non
  · exact Spec.non
theorem opS_spec (hB : Base F ρ U) {E : EnvS} {Ee : Env} (hE : EnvR F ρ U E Ee) {pc : PC} {draw : Bool} {chk : Nat → Bool} {nid : Nat} {tm : TmS} {h : HeapS} {o : Op} :
    Spec F (opS E pc draw chk nid tm h o) (OpR F ρ U Ee pc draw chk nid tm h o) := by
  have hP := hE.P
  unfold opS
  split
  · rename_i x
    refine Spec.bnd (rdS_spec hB) fun v => Spec.ret fun h1 st hs hp => ⟨_, ?_, ansV⟩
    simp only [opD, h1 h st hs hp]
  · rename_i x
    refine Spec.bnd (rdS_spec hB) fun v => Spec.ret fun h1 st hs hp => ⟨_, ?_, ansV⟩
    simp only [opD, h1 h st hs hp]
  · exact pickS_spec hB
  · -- alloc
    rename_i e
    unfold oAlloc
    split
    · rename_i i hi
      split
      · rename_i z hz
        refine Spec.gd fun hc => Spec.ret fun st hs hp => ?_
        have hh : st.heap = hpc F ρ U h := hs.hp
        rw [Bool.and_eq_true] at hc
        refine ⟨⟨.pointer (some ⟨nid, 0, none⟩), true, .at_ nid z.cells.toList, true⟩, ?_, ⟨rfl, fun w hw => by cases hw; exact ⟨(cv_ptr _ _).symm, rfl⟩, ?_⟩⟩
        · simp only [opD, hP, hi, hz, hh, freshS_spec, hc.1, hc.2, Bool.and_self, cond_true]
        · show W.at_ nid _ = W.at_ nid (cvl F ρ U (z.cells.toList.map .lit))
          rw [map_lit]
      · exact Spec.non
    · exact Spec.non
  · -- box
    rename_i ty x
    refine Spec.gd fun hc => Spec.bnd (rdS_spec hB) fun v => Spec.ret fun h1 st hs hp => ?_
    have hh : st.heap = hpc F ρ U h := hs.hp
    refine ⟨⟨.pointer (some ⟨nid, 0, none⟩), true, .at_ nid (cv F ρ U v).cells.toList, true⟩, ?_, ⟨rfl, fun w hw => by cases hw; exact ⟨(cv_ptr _ _).symm, rfl⟩, ?_⟩⟩
    · simp only [opD, hh, freshS_spec, hc, cond_true, h1 h st hs hp]
    · show W.at_ nid _ = W.at_ nid (cvl F ρ U v.cells)
      rw [cells_spec]
  · -- load
    rename_i ty a
    refine oOne_spec hB (G := fun x => tt (okF (loadF E.P chk (hpc F ρ U h) ty x))) (fun a => optG fun r hr _ => ?_) fun t a v e1 e2 => ?_
    · rw [loadF_of (loadFS_spec hE.frn hr) (loadFS_ty hr)]; rfl
    · simp only [opD, hP, e1, okF_some (tt_some e2), mk2, Bool.and_self]
  · -- store
    rename_i ty a x
    refine Spec.bnd (rdS_spec hB) fun va => Spec.bnd (rdS_spec hB) fun vx => Spec.bnd Spec.opt fun r => Spec.ret fun h1 h2 h3 st hs hp => ?_
    have hh : st.heap = hpc F ρ U h := hs.hp
    obtain ⟨b, cs⟩ := r
    refine ⟨⟨undef, false, .at_ b (cvl F ρ U cs), true⟩, ?_, ⟨rfl, fun w hw => (by cases hw), rfl⟩⟩
    simp only [opD, hP, h2 h st hs hp, h3 h st hs hp, hh, storeF_iff.2 (storeS_spec h1), Bool.and_self]
  · -- binOp
    rename_i op ty x y z
    refine oTwo_spec hB (G := fun a b => bif isStrA E.P ty a then none else binD E.P op ty a b) (fun a b => Spec.gd fun hs => (binS_spec hB).mono fun r hr hp => by rw [noStr_cv hs, cond_false]; exact hr hp) fun t a b v e1 e2 e3 => ?_
    cases hs : isStrA E.P ty a with
    | true => rw [hs, cond_true] at e3; cases e3
    | false =>
      rw [hs, cond_false] at e3
      simp only [opD, hP, e1, e2, e3, hs, cond_false, mk, Bool.and_self]
  · -- unOp
    rename_i op ty x
    refine oOne_spec hB (G := fun a => tt (unD E.P op a)) (fun a => (unS_spec hB).mono fun r hr _ => by rw [hr]; rfl) fun t a v e1 e2 => ?_
    simp only [opD, hP, e1, tt_some e2, mk]
  · -- convert
    rename_i s d x
    refine oOne_spec hB (G := fun a => cvD E.P s d a) (fun a => cvS_spec.mono fun r hr _ => hr) fun t a v e1 e2 => ?_
    simp only [opD, hP, e1, e2, Bool.and_self]
  · -- index
    rename_i ty x ix
    refine oTwo_spec hB (G := fun a b => okF (idxF E.P ty a b)) (fun a b => optG fun r hr _ => by rw [idxFS_spec hr]; rfl) fun t a b v e1 e2 e3 => ?_
    simp only [opD, hP, e1, e2, okF_some e3, mk2, Bool.and_self]
  · -- indexAddr
    rename_i ty x ix
    refine oTwo_spec hB (G := fun a b => idxAddrD E.P ty a b) (fun a b => optG fun r hr _ => idxAddrS_spec hr) fun t a b v e1 e2 e3 => ?_
    simp only [opD, hP, e1, e2, idxAddrF_iff.2 e3, mk2, Bool.and_self]
  · -- extract
    rename_i x i
    refine oOne_spec hB (G := fun a => match a with | .tuple vs => tt vs.toList[i]? | _ => none) (fun a => optG fun r hr _ => ?_) fun t a v e1 e2 => ?_
    · unfold extS at hr
      split at hr
      · rw [cv_tuple]
        show tt (cvl F ρ U _)[i]? = _
        rw [get_cvl, hr]; rfl
      · cases hr
    · simp only [opD, e1]
      split at e2
      · simp only [tt_some e2, mk]
      · cases e2
  · -- slice
    rename_i ty x lo hi
    refine Spec.bnd (rdS_spec hB) fun vx => Spec.bnd (rdO_spec hB lo) fun vl => Spec.bnd (rdO_spec hB hi) fun vh => Spec.bnd Spec.opt fun r => Spec.ret fun h1 h2 h3 h4 st hs hp => ?_
    obtain ⟨a1, a2⟩ := h3 h st hs hp
    obtain ⟨b1, b2⟩ := h2 h st hs hp
    refine ⟨_, ?_, ansV⟩
    simp only [opD, hP, h4 h st hs hp, a1, a2, b1, b2, sliceF_iff.2 (sliceS_spec h1), mk2, Bool.and_self]
  · -- makeFunc
    rename_i fn first captured
    refine Spec.bnd (rdL_spec hB _) fun l => Spec.bnd (rdL_spec hB _) fun m => Spec.ret fun h1 h2 st hs hp => ?_
    obtain ⟨a1, a2⟩ := fst_all (h2 h st hs hp)
    obtain ⟨b1, b2⟩ := fst_all (h1 h st hs hp)
    refine ⟨_, ?_, ansV⟩
    rw [cv_func]
    simp only [opD, a1, a2, b1, b2, Bool.and_self]
  · -- nilCheck
    rename_i x
    refine oOne_spec hB (G := fun a => tt (nilD a)) (fun a => optG fun r hr _ => ?_) fun t a v e1 e2 => ?_
    · unfold nilS at hr
      split at hr
      · cases hr; rw [cv_ptr]; rfl
      · cases hr; rw [cv_lit]; rfl
      · cases hr; rw [cv_func]; rfl
      · cases hr
    · simp only [opD, e1, tt_some e2, mk]
  · -- field
    rename_i ty x f
    refine oOne_spec hB (G := fun a => tt (okF (fieldF E.P ty a f))) (fun a => optG fun r hr _ => by rw [fieldFS_spec hr]; rfl) fun t a v e1 e2 => ?_
    simp only [opD, hP, e1, okF_some (tt_some e2), mk2, Bool.and_true]
  · -- fieldAddr
    rename_i ty x f
    refine oOne_spec hB (G := fun a => tt (fieldAddrD E.P ty a f)) (fun a => optG fun r hr _ => by rw [fieldAddrS_spec hr]; rfl) fun t a v e1 e2 => ?_
    simp only [opD, hP, e1, tt_some e2, mk]
  · -- build
    rename_i ty parts
    refine Spec.bnd (rdL_spec hB _) fun l => Spec.bnd Spec.opt fun r => Spec.ret fun h1 h2 st hs hp => ?_
    obtain ⟨a1, a2⟩ := parts_spec (h2 h st hs hp)
    refine ⟨_, ?_, ansV⟩
    simp only [opD, hP, a1, a2, buildS_spec h1, mk]
  · -- buildSlice
    rename_i ty len parts
    refine Spec.gd fun hc => Spec.bnd (rdL_spec hB _) fun l => Spec.bnd Spec.opt fun cs => Spec.ret fun h1 h2 st hs hp => ?_
    have hh : st.heap = hpc F ρ U h := hs.hp
    obtain ⟨a1, a2⟩ := parts_spec (h2 h st hs hp)
    refine ⟨⟨.slice (some ⟨nid, 0, none⟩) len len, true, .at_ nid (cvl F ρ U cs), true⟩, ?_, ⟨rfl, fun w hw => by cases hw; exact ⟨(cv_slice _ _ _ _).symm, rfl⟩, rfl⟩⟩
    simp only [opD, hP, hh, freshS_spec, hc, cond_true, a1, a2, rowS_spec h1]
  · -- call
    rename_i c
    split
    · rename_i hc
      unfold oLen lenM
      refine Spec.bnd (rdL_spec hB _) fun l => ?_
      have fin : ∀ l r, c.argTypes.toList.length = c.argTypes.toList.length → lenL E c.argTypes.toList l = some r → (∀ h st, StR F ρ U ⟨tm, h⟩ st → pcH F ρ U pc → c.args.toList.map (evl st.tmps) = (cvl F ρ U l).map fun v => (v, true)) → OpR F ρ U Ee pc draw chk nid tm h (.call c) (some r, .no) := fun l r _ h1 h2 st hs hp => by
        refine ⟨_, ?_, ansV⟩
        have e := h2 h st hs hp
        unfold lenL at h1
        split at h1
        · rename_i ty tys x hx
          have h3 : lenD E.P ty (cv F ρ U x) = some (cv F ρ U r) := lenS_spec h1
          have e : c.args.toList.map (evl st.tmps) = [(cv F ρ U x, true)] := e
          simp only [opD, hc, isApp, cond_false, biD, hP, lenOp, e, hx, h3, mk]
        · cases h1
      unfold one2
      split
      · rename_i ty tys i hty
        have key : Spec F (gd (isStrT E.P ty) (bnd (mk3 63 i 0 0) fun r => ret (.n .i64 r))) (fun v => isStrT E.P ty = true ∧ cv F ρ U v = .int .i64 (strOf (raw F ρ U i).z).size) :=
          Spec.gd fun hs => Spec.bnd (mk3_spec (ρ := ρ) (U := U)) fun r => Spec.ret fun h1 => by
            obtain ⟨p, hp⟩ := h1
            exact ⟨hs, by rw [cv_n, hp, op63]; rfl⟩
        refine Spec.bnd key fun v => Spec.ret fun h1 h2 st hs hp => ?_
        refine ⟨_, ?_, ansV⟩
        have e : c.args.toList.map (evl st.tmps) = [(cv F ρ U (.s i), true)] := h2 h st hs hp
        have h3 : lenD E.P ty (cv F ρ U (.s i)) = some (cv F ρ U v) := by
          have h4 := h1.1
          unfold isStrT at h4
          split at h4
          · rename_i hu
            rw [cv_s, h1.2]
            unfold lenD
            simp only [hu]
          · cases h4
        simp only [opD, hc, isApp, cond_false, biD, hP, lenOp, e, hty, h3, mk]
      · exact Spec.bnd Spec.opt fun r => Spec.ret fun h1 h2 => fin _ r rfl h1 h2
    · rename_i hc
      unfold oMM mmA
      refine Spec.bnd (rdL_spec hB _) fun l => ?_
      split
      · rename_i x y
        refine Spec.bnd (mmS_spec hB) fun r => Spec.ret fun h1 h2 st hs hp => ?_
        refine ⟨_, ?_, ansV⟩
        have e : c.args.toList.map (evl st.tmps) = [(cv F ρ U x, true), (cv F ρ U y, true)] := h2 h st hs hp
        simp only [opD, hc, isApp, cond_false, biD, mmOp, e, h1 hp, mk, Bool.and_self]
      · exact Spec.non
    · rename_i hc
      unfold oMM mmA
      refine Spec.bnd (rdL_spec hB _) fun l => ?_
      split
      · rename_i x y
        refine Spec.bnd (mmS_spec hB) fun r => Spec.ret fun h1 h2 st hs hp => ?_
        refine ⟨_, ?_, ansV⟩
        have e : c.args.toList.map (evl st.tmps) = [(cv F ρ U x, true), (cv F ρ U y, true)] := h2 h st hs hp
        simp only [opD, hc, isApp, cond_false, biD, mmOp, e, h1 hp, mk, Bool.and_self]
      · exact Spec.non
    · rename_i f hc
      unfold oCall
      refine Spec.bnd (rdS_spec hB) fun vf => Spec.bnd (rdL_spec hB _) fun l => (callS_spec hE).mono fun r h1 h2 h3 st hs hp => ?_
      have hh : st.heap = hpc F ρ U h := hs.hp
      obtain ⟨a1, a2⟩ := fst_all (h2 h st hs hp)
      obtain ⟨q, q1, q2⟩ := h1 hp
      refine ⟨q, ?_, q2⟩
      simp only [opD, hc, h3 h st hs hp, a1, a2, hh, Bool.and_self]
      exact q1
    · rename_i x name hc
      unfold oInv
      refine Spec.bnd (rdS_spec hB) fun vx => Spec.bnd (rdL_spec hB _) fun l => (invS_spec hE).mono fun r h1 h2 h3 st hs hp => ?_
      obtain ⟨a1, a2⟩ := fst_all (h2 h st hs hp)
      obtain ⟨q, q1, q2⟩ := h1 hp
      refine ⟨q, ?_, q2⟩
      simp only [opD, hc, h3 h st hs hp, a1]
      exact q1
    · exact Spec.non
  · -- makeInterface
    rename_i ty x
    refine oOne_spec hB (G := fun a => tt (mkIfaceD E.P ty a)) (fun a => optG fun r hr _ => ?_) fun t a v e1 e2 => ?_
    · have key : ∀ v, litIface E.P ty v = some r → tt (mkIfaceD E.P ty v) = some (cv F ρ U r, true) := fun v hv => by
        unfold litIface at hv
        split at hv
        · rename_i w hw
          cases hv
          rw [hw, cv_lit]; rfl
        · cases hv
      unfold mkIfaceS at hr
      split at hr
      · rw [cv_agg]; exact key _ hr
      · rw [cv_lit]; exact key _ hr
      · cases hr
    · simp only [opD, hP, e1, tt_some e2, mk]
  · -- typeAssert
    rename_i x xt ty
    refine oOne_spec hB (G := fun a => tt (asrtD E.P xt ty a)) (fun a => optG fun r hr _ => ?_) fun t a v e1 e2 => ?_
    · unfold asrtS at hr
      split at hr
      · split at hr
        · rename_i cs hcs
          cases hr
          rw [cv_lit, hcs, cv_tuple, map_lit]; rfl
        · cases hr
      · cases hr
    · simp only [opD, hP, e1, tt_some e2, mk]
  · -- makeSlice
    rename_i ty l c
    refine Spec.gd fun hc => Spec.bnd (rdS_spec hB) fun vl => Spec.bnd (rdS_spec hB) fun vc => Spec.bnd Spec.opt fun r => Spec.ret fun h0 h2 h1 st hs hp => ?_
    have hh : st.heap = hpc F ρ U h := hs.hp
    unfold mkSlS at h0
    split at h0
    · rename_i a b
      split at h0
      · rename_i n cs hm
        cases h0
        refine ⟨⟨.slice (some ⟨nid, 0, none⟩) n n, true, .at_ nid cs, true⟩, ?_, ⟨rfl, fun w hw => by cases hw; exact ⟨(cv_slice _ _ _ _).symm, rfl⟩, ?_⟩⟩
        · simp only [opD, hP, hh, freshS_spec, hc, cond_true, h1 h st hs hp, h2 h st hs hp, cv_lit, makeF_iff.2 hm, Bool.and_self]
        · show W.at_ nid _ = W.at_ nid (cvl F ρ U (cs.map .lit))
          rw [map_lit]
      · cases h0
    · cases h0
  · exact Spec.non
end
end Sx
end
noncomputable section
namespace Sx
open Go Ev

theorem setC_eq {α β : Type} : ∀ (l : List α) (i : Nat) (v : α) (k : List α → β), setC l i v k = k (l.set i v)
  | [], _, _, _ => rfl
  | _ :: _, 0, _, _ => rfl
  | a :: r, i + 1, v, k => by rw [setC, setC_eq r i v]; rfl
theorem forceL_eq {α β : Type} : ∀ (l : List α) (k : List α → β), forceL l k = k l
  | [], _ => rfl
  | a :: r, k => by rw [forceL, forceL_eq r]
theorem forceV_eq {β : Type} (v : SV) (k : SV → β) : forceV v k = k v := by
  unfold forceV
  split
  · exact forceL_eq _ _
  · rfl
def slots (tm : TmS) (d : Option Tmp) (v : Slot) : TmS :=
  match d with
  | some i => bif Nat.blt i tm.n then ⟨tm.n, tm.d, setSR tm.d tm.t i v⟩ else tm
  | none => tm
theorem putSl_eq {β : Type} (tm : TmS) (d : Option Tmp) (v : Slot) (k : TmS → β) : putSl tm d v k = k (slots tm d v) := by
  obtain ⟨n, dd, t⟩ := tm
  unfold putSl slots
  cases d with
  | none => rfl
  | some d =>
    dsimp only
    cases Nat.blt d n with
    | true => rw [cond_true, cond_true, setS_eq]
    | false => rfl
theorem putSV_eq {β : Type} (tm : TmS) (d : Option Tmp) (v : Option SV) (g : Nat) (k : TmS → β) : putSV tm d v g k = k (slots tm d (v.map fun x => (x, g))) := by
  unfold putSV
  cases v with
  | none => exact putSl_eq ..
  | some v => dsimp only; rw [forceV_eq, putSl_eq]; rfl
def heapW (h : HeapS) : WS → HeapS
  | .no => h
  | .at_ b cs => h.set b (some cs)
  | .all h' => h'
theorem putWS_eq {β : Type} (h : HeapS) (w : WS) (k : HeapS → β) : putWS h w k = k (heapW h w) := by
  unfold putWS heapW
  cases w with
  | no => rfl
  | at_ b cs => dsimp only; rw [forceL_eq, setC_eq]
  | all h' => exact forceL_eq _ _

section
variable {F : Tab} {ρ : Nat → Int} {U : Nat → Vl → Vl}
variable [Frn] [SFrn]
theorem heapW_spec (h : HeapS) (w : WS) : putW (hpc F ρ U h) (wsc F ρ U w) = hpc F ρ U (heapW h w) := by
  cases w with
  | no => rfl
  | at_ b cs =>
    show (hpc F ρ U h).set b (some (cvl F ρ U cs)) = (h.set b (some cs)).map _
    rw [List.map_set]
    rfl
  | all h' => rfl
theorem slots_n (tm : TmS) (d : Option Tmp) (v : Slot) : (slots tm d v).n = tm.n ∧ (slots tm d v).d = tm.d := by
  cases d with
  | none => exact ⟨rfl, rfl⟩
  | some d =>
    unfold slots
    dsimp only
    cases Nat.blt d tm.n <;> exact ⟨rfl, rfl⟩
theorem putT_len (t : List (Value × Bool)) (d : Option Tmp) (v : Value × Bool) : (putT t d v).length = t.length := by
  cases d with
  | none => rfl
  | some d => exact List.length_set
theorem getD_set {α : Type} (l : List α) (i j : Nat) (v d : α) : (l.set i v).getD j d = if i = j ∧ j < l.length then v else l.getD j d := by
  rw [List.getD_eq_getElem?_getD, List.getD_eq_getElem?_getD, List.getElem?_set]
  by_cases h : i = j
  · subst h
    by_cases h2 : i < l.length
    · simp [h2]
    · simp [h2]
  · simp [h]
theorem lenR {tm : TmS} {st : List (Value × Bool)} (h : tm.n = st.length ∧ tm.n ≤ 4 ^ tm.d) (d : Option Tmp) (v : Slot) (p : Value × Bool) : (slots tm d v).n = (putT st d p).length ∧ (slots tm d v).n ≤ 4 ^ (slots tm d v).d := by
  obtain ⟨a, b⟩ := slots_n tm d v
  rw [a, b, putT_len]; exact h
theorem slots_spec {tm : TmS} {st : List (Value × Bool)} (hl : tm.n = st.length ∧ tm.n ≤ 4 ^ tm.d) (ht : ∀ i, SlotR F ρ U (getTm tm i) (st.getD i (undef, false))) {d : Option Tmp} {v : Slot} {p : Value × Bool} (hv : SlotR F ρ U v p) :
    ∀ i, SlotR F ρ U (getTm (slots tm d v) i) ((putT st d p).getD i (undef, false)) := fun i => by
  cases d with
  | none => exact ht i
  | some d =>
    obtain ⟨n, dd, t⟩ := tm
    obtain ⟨hl, hd⟩ := hl
    have hl : n = st.length := hl
    have hd : n ≤ 4 ^ dd := hd
    show SlotR F ρ U (getTm (bif Nat.blt d n then ⟨n, dd, setSR dd t d v⟩ else ⟨n, dd, t⟩) i) ((st.set d p).getD i (undef, false))
    have hti := ht i
    rw [getD_set]
    cases hb : Nat.blt d n with
    | false =>
      have hdn : ¬ d < n := fun h => by rw [Nat.blt, Nat.ble_eq_true_of_le h] at hb; cases hb
      rw [cond_false, if_neg (fun h => hdn (by rw [h.1, hl]; exact h.2))]
      exact hti
    | true =>
      rw [cond_true]
      have hdn : d < n := bltT hb
      show SlotR F ρ U (bif Nat.blt i n then getS dd (setSR dd t d v) i else none) _
      cases hi : Nat.blt i n with
      | false => exact SlotR.none
      | true =>
        have hin : i < n := bltT hi
        have hti : SlotR F ρ U (bif Nat.blt i n then getS dd t i else none) _ := hti
        rw [hi, cond_true] at hti
        rw [cond_true, getS_set dd t d v i (Nat.lt_of_lt_of_le hdn hd) (Nat.lt_of_lt_of_le hin hd)]
        by_cases h : d = i
        · subst h
          rw [if_pos rfl, if_pos ⟨rfl, hl ▸ hdn⟩]; exact hv
        · rw [if_neg (fun e => h e.symm), if_neg (fun e => h e.1)]; exact hti

/-! ### steps -/
theorem guardS_spec (hB : Base F ρ U) {ops : List Oper} {tm : TmS} {j : Nat} {want : Bool} : Spec F (guardS ops tm j want) (fun g => ∀ h st, StR F ρ U ⟨tm, h⟩ st → tv F ρ U g = guardD ops st.tmps (some (j, want))) := by
  unfold guardS
  split
  · rename_i oj h1
    split
    · rename_i d h2
      split
      · rename_i v dd h3
        unfold guardT
        have kw : ∀ i, Spec F (bif want then ret i else notS i) (fun w => tv F ρ U w = (tv F ρ U i == want)) := fun i =>
          Spec.bif (fun e => Spec.ret (by rw [e]; cases tv F ρ U i <;> rfl)) fun e => (notS_spec hB).mono fun w hw => by rw [hw, e]; cases tv F ρ U i <;> rfl
        refine Spec.bnd (optB hB) fun i => Spec.bnd (kw i) fun w => (andS_spec hB).mono fun g e1 e2 e3 h st hs => ?_
        have hsl := hs.tm d v dd h3
        have hg : guardD ops st.tmps (some (j, want)) = match st.tmps.getD d (undef, false) with | (.bool b, g) => g && (b == want) | _ => false := by
          unfold guardD
          simp only [h1, h2]
          cases st.tmps.getD d (undef, false) with
          | mk x y => cases x <;> rfl
        rw [hg, e1, e2]
        cases hd : tv F ρ U dd with
        | true =>
          rw [hd, cond_true] at hsl
          rw [hsl, e3]
        | false =>
          rw [hd, cond_false] at hsl
          cases hq : st.tmps.getD d (undef, false) with
          | mk x y =>
            rw [hq] at hsl
            simp only at hsl
            subst hsl
            cases x <;> rfl
      · exact Spec.non
    · exact Spec.non
  · exact Spec.non
abbrev StepR (F : Tab) (ρ : Nat → Int) (U : Nat → Vl → Vl) (pc : PC) (s : SSt) (f : St → Option St) (s' : SSt) : Prop := ∀ st, StR F ρ U s st → pcH F ρ U pc → ∃ st', f st = some st' ∧ StR F ρ U s' st'
theorem stepS_spec (hB : Base F ρ U) {E : EnvS} {Ee : Env} (hE : EnvR F ρ U E Ee) {pc : PC} {draw : Bool} {chk : Nat → Bool} {ops : List Oper} {nid : Nat} {o : Oper} {s : SSt} :
    Spec F (stepS E pc draw chk ops nid o s) (StepR F ρ U pc s (stepD Ee draw chk ops nid o)) := by
  obtain ⟨tm, h⟩ := s
  unfold stepS
  dsimp only
  cases hg : o.guard with
  | none =>
    unfold stepU
    refine Spec.bnd (opS_spec hB hE) fun r => ?_
    rw [putSV_eq, putWS_eq]
    refine Spec.ret fun h1 st hs hp => ?_
    obtain ⟨q, q1, q2⟩ := h1 st hs hp
    have hh : st.heap = hpc F ρ U h := hs.hp
    refine ⟨⟨putT st.tmps o.dst (q.val, q.g), putW st.heap q.w, q.ok && st.ok⟩, by unfold stepD; simp only [hg, q1], ?_, ?_, ?_, ?_⟩
    · show (q.ok && st.ok) = true
      rw [q2.ok, hs.ok]; rfl
    · exact lenR hs.len ..
    · refine slots_spec hs.len hs.tm ?_
      intro v d hv
      cases hr : r.1 with
      | none => rw [hr] at hv; cases hv
      | some w =>
        rw [hr] at hv
        cases hv
        obtain ⟨a1, a2⟩ := q2.v _ hr
        rw [hB.t1, a1, a2]; rfl
    · show putW st.heap q.w = _
      rw [q2.w, hh, heapW_spec]
  | some gd =>
    obtain ⟨j, want⟩ := gd
    dsimp only
    refine Spec.bnd (guardS_spec hB) fun g => Spec.bif (fun h0 => ?_) fun h0 => ?_
    · rw [putSl_eq]
      refine Spec.ret fun h1 st hs hp => ?_
      have hgd : guardD ops st.tmps (some (j, want)) = false := by rw [← h1 h st hs, beqT h0, hB.t0]
      have key : ∃ p k, stepD Ee draw chk ops nid o st = some ⟨putT st.tmps o.dst p, st.heap, k⟩ ∧ k = true := by
        unfold stepD
        simp only [hg, hgd]
        split
        · exact ⟨_, _, rfl, by rw [hs.ok]; simp⟩
        · exact ⟨_, _, rfl, by rw [hs.ok]; simp⟩
        · exact ⟨_, _, rfl, by rw [hs.ok]; rfl⟩
      obtain ⟨p, k, e, rfl⟩ := key
      exact ⟨_, e, rfl, lenR hs.len .., slots_spec hs.len hs.tm SlotR.none, hs.hp⟩
    · refine Spec.bnd (opS_spec hB hE) fun r => ?_
      have keyF : ∀ st, StR F ρ U ⟨tm, h⟩ st → guardD ops st.tmps (some (j, want)) = false → ∃ x k, stepD Ee draw chk ops nid o st = some ⟨putT st.tmps o.dst (x, false), st.heap, k⟩ ∧ k = true := fun st hs hgd => by
        unfold stepD
        simp only [hg, hgd]
        split
        · exact ⟨_, _, rfl, by rw [hs.ok]; simp⟩
        · exact ⟨_, _, rfl, by rw [hs.ok]; simp⟩
        · exact ⟨_, _, rfl, by rw [hs.ok]; rfl⟩
      unfold stepG
      split
      · rename_i v
        rw [putSV_eq]
        refine Spec.ret fun h1 h2 st hs hp => ?_
        have hgd := h2 h st hs
        cases ht : tv F ρ U g with
        | true =>
          obtain ⟨q, q1, q2⟩ := h1 st hs (hp.cons ht)
          rw [ht] at hgd
          obtain ⟨a1, a2⟩ := q2.v _ rfl
          obtain ⟨qv, qg, qw, qok⟩ := q
          have e1 : qw = .no := q2.w
          have e2 : qok = true := q2.ok
          simp only at a1 a2
          subst e1 e2 a1 a2
          refine ⟨⟨putT st.tmps o.dst (cv F ρ U v, true), st.heap, true⟩, ?_, rfl, lenR hs.len .., slots_spec hs.len hs.tm ?_, hs.hp⟩
          · unfold stepD
            simp only [hg, q1, ← hgd, hs.ok]
            rfl
          · intro w d hw
            cases hw
            rw [ht]; rfl
        | false =>
          rw [ht] at hgd
          obtain ⟨x, k, e, rfl⟩ := keyF st hs hgd.symm
          refine ⟨_, e, rfl, lenR hs.len .., slots_spec hs.len hs.tm ?_, hs.hp⟩
          intro w d hw
          cases hw
          rw [ht]; rfl
      · rename_i v h'
        refine Spec.bnd (mergeHeap_spec hB h' h) fun hh => ?_
        rw [putSV_eq]
        refine Spec.ret fun h0 h1 h2 st hs hp => ?_
        have hgd := h2 h st hs
        have hheap : st.heap = hpc F ρ U h := hs.hp
        unfold by_ at h0
        cases ht : tv F ρ U g with
        | true =>
          rw [ht, cond_true] at h0
          obtain ⟨q, q1, q2⟩ := h1 st hs (hp.cons ht)
          rw [ht] at hgd
          obtain ⟨a1, a2⟩ := q2.v _ rfl
          obtain ⟨qv, qg, qw, qok⟩ := q
          have e1 : qw = .all (hpc F ρ U h') := q2.w
          have e2 : qok = true := q2.ok
          simp only at a1 a2
          subst e1 e2 a1 a2
          refine ⟨⟨putT st.tmps o.dst (cv F ρ U v, true), hpc F ρ U h', true⟩, ?_, rfl, lenR hs.len .., slots_spec hs.len hs.tm ?_, h0.symm⟩
          · unfold stepD
            simp only [hg, q1, ← hgd, hs.ok]
            rfl
          · intro w d hw
            cases hw
            rw [ht]; rfl
        | false =>
          rw [ht, cond_false] at h0
          rw [ht] at hgd
          obtain ⟨x, k, e, rfl⟩ := keyF st hs hgd.symm
          refine ⟨_, e, rfl, lenR hs.len .., slots_spec hs.len hs.tm ?_, hheap.trans h0.symm⟩
          intro w d hw
          cases hw
          rw [ht]; rfl
      · exact Spec.non
theorem runS_spec (hB : Base F ρ U) {E : EnvS} {Ee : Env} (hE : EnvR F ρ U E Ee) {pc : PC} {draw : Bool} {ops : List Oper} {ms : List Nat} {lo : Nat} : ∀ (l : List Oper) (i : Nat) (s : SSt), Spec F (runS E pc draw ops ms lo i l s) (StepR F ρ U pc s (runD Ee draw ops ms lo i l))
  | [], _, _ => Spec.ret fun st hs _ => ⟨st, rfl, hs⟩
  | o :: r, i, s => by
    unfold runS
    refine Spec.bnd (stepS_spec hB hE) fun s1 => (runS_spec hB hE r (i + 1) s1).mono fun s2 h1 h2 st hs hp => ?_
    obtain ⟨st1, e1, g1⟩ := h2 st hs hp
    obtain ⟨st2, e2, g2⟩ := h1 st1 g1 hp
    exact ⟨st2, by unfold runD; simp only [e1, e2], g2⟩
theorem regionS_spec (hB : Base F ρ U) {E : EnvS} {Ee : Env} (hE : EnvR F ρ U E Ee) {pc : PC} {draw : Bool} {ops : List Oper} {s : SSt} : Spec F (regionS E pc draw ops s) (StepR F ρ U pc s (regionD Ee draw ops)) := by
  obtain ⟨tm, h⟩ := s
  unfold regionS
  dsimp only
  rw [force_eq]
  have hlen : ∀ st : St, StR F ρ U ⟨tm, h⟩ st → st.heap.length = h.length := fun st hs => by rw [hs.hp, len_hpc]
  refine Spec.bif (fun hn => ?_) fun hn => ?_
  · rw [forceL_eq]
    refine (runS_spec hB (hE.at false) ops 0 _).mono fun s' h1 st hs hp => ?_
    obtain ⟨st', e, g⟩ := h1 { st with heap := st.heap ++ List.replicate ops.length none } ⟨hs.ok, hs.len, hs.tm, by
      show st.heap ++ List.replicate ops.length none = hpc F ρ U (h ++ List.replicate ops.length none)
      unfold hpc
      rw [List.map_append, List.map_replicate, show st.heap = _ from hs.hp]
      rfl⟩ hp
    refine ⟨st', ?_, g⟩
    unfold regionD
    rw [hn, cond_true, hlen st hs, hE.stb, Bool.false_and]
    exact e
  · refine (runS_spec hB (hE.at (draw && laxB ops)) ops 0 _).mono fun s' h1 st hs hp => ?_
    obtain ⟨st', e, g⟩ := h1 st hs hp
    refine ⟨st', ?_, g⟩
    unfold regionD
    rw [hn, cond_false, hlen st hs]
    exact e
end
end Sx
end
noncomputable section
namespace Sx
open Go Ev

section
variable {F : Tab} {ρ : Nat → Int} {U : Nat → Vl → Vl}
variable [Frn] [SFrn]

/-! ### ways out -/
abbrev RelR := List SV → HeapS → St → Prop
def onR (F : Tab) (ρ : Nat → Int) (U : Nat → Vl → Vl) (r : List RetS) : Bool := r.any fun q => tv F ρ U q.1
def anyX (F : Tab) (ρ : Nat → Int) (U : Nat → Vl → Vl) (xs : Exits) : Bool := xs.any fun x => tv F ρ U x.2.1
def SatR (F : Tab) (ρ : Nat → Int) (U : Nat → Vl → Vl) (RR : RelR) (r : List RetS) (st : St) : Prop := ∀ q ∈ r, tv F ρ U q.1 = true → RR q.2.1 q.2.2 st
def SatX (F : Tab) (ρ : Nat → Int) (U : Nat → Vl → Vl) (xs : Exits) (id : Nat) (st : St) : Prop := ∀ x ∈ xs, tv F ρ U x.2.1 = true → x.1 = id ∧ StR F ρ U x.2.2 st
def OutR (F : Tab) (ρ : Nat → Int) (U : Nat → Vl → Vl) (RR : RelR) (o : OutS) (e : Ex) (st : St) : Prop :=
  match e with
  | .normal => (∃ s, o.norm = some s ∧ StR F ρ U s st) ∧ onR F ρ U o.ret = false ∧ anyX F ρ U o.exits = false
  | .exit id => onR F ρ U o.ret = false ∧ anyX F ρ U o.exits = true ∧ SatX F ρ U o.exits id st
  | .ret => anyX F ρ U o.exits = false ∧ onR F ρ U o.ret = true ∧ SatR F ρ U RR o.ret st
theorem SatX.off {xs : Exits} (h : anyX F ρ U xs = false) (id : Nat) (st : St) : SatX F ρ U xs id st := fun x hx ht => by
  have : anyX F ρ U xs = true := List.any_eq_true.2 ⟨x, hx, ht⟩
  rw [h] at this; cases this
theorem SatR.off {RR : RelR} {r : List RetS} (h : onR F ρ U r = false) (st : St) : SatR F ρ U RR r st := fun q hq ht => by
  have : onR F ρ U r = true := List.any_eq_true.2 ⟨q, hq, ht⟩
  rw [h] at this; cases this

theorem maskC_spec (hB : Base F ρ U) {c : Nat} {pos : Bool} {g : Nat} : Spec F (maskC c pos g) (fun r => tv F ρ U r = ((tv F ρ U c == pos) && tv F ρ U g)) := by
  unfold maskC
  refine Spec.bif (fun h => (ite_tv hB).mono fun r e => ?_) fun h => (ite_tv hB).mono fun r e => ?_
  · rw [e, h, hB.t0]; cases tv F ρ U c <;> rfl
  · rw [e, h, hB.t0]; cases tv F ρ U c <;> rfl
theorem maskX_spec (hB : Base F ρ U) {c : Nat} {pos : Bool} : ∀ (xs : Exits), Spec F (maskX c pos xs) (fun l => anyX F ρ U l = ((tv F ρ U c == pos) && anyX F ρ U xs) ∧ ∀ id st, ((tv F ρ U c == pos) = true → SatX F ρ U xs id st) → SatX F ρ U l id st)
  | [] => Spec.ret ⟨by simp [anyX], fun _ _ _ _ hx => by cases hx⟩
  | (id, g, s) :: r => by
    unfold maskX
    refine Spec.bnd (maskC_spec hB) fun g' => Spec.bnd (maskX_spec hB r) fun l => Spec.ret fun h1 h2 => ?_
    obtain ⟨h3, h4⟩ := h1
    refine ⟨?_, fun j st h x hx ht => ?_⟩
    · show (tv F ρ U g' || anyX F ρ U l) = (_ && (tv F ρ U g || anyX F ρ U r))
      rw [h2, h3]
      cases (tv F ρ U c == pos) <;> rfl
    · rcases List.mem_cons.1 hx with rfl | hx
      · rw [h2, Bool.and_eq_true] at ht
        exact h ht.1 (id, g, s) (List.mem_cons_self ..) ht.2
      · exact h4 j st (fun hc y hy => h hc y (List.mem_cons_of_mem _ hy)) x hx ht
theorem maskR_spec (hB : Base F ρ U) {RR : RelR} {c : Nat} {pos : Bool} : ∀ (r : List RetS), Spec F (maskR c pos r) (fun l => onR F ρ U l = ((tv F ρ U c == pos) && onR F ρ U r) ∧ ∀ st, ((tv F ρ U c == pos) = true → SatR F ρ U RR r st) → SatR F ρ U RR l st)
  | [] => Spec.ret ⟨by simp [onR], fun _ _ _ hq => by cases hq⟩
  | (g, v, h) :: r => by
    unfold maskR
    refine Spec.bnd (maskC_spec hB) fun g' => Spec.bnd (maskR_spec hB (RR := RR) r) fun l => Spec.ret fun h1 h2 => ?_
    obtain ⟨h3, h4⟩ := h1
    refine ⟨?_, fun st hs q hq ht => ?_⟩
    · show (tv F ρ U g' || onR F ρ U l) = (_ && (tv F ρ U g || onR F ρ U r))
      rw [h2, h3]
      cases (tv F ρ U c == pos) <;> rfl
    · rcases List.mem_cons.1 hq with rfl | hq
      · rw [h2, Bool.and_eq_true] at ht
        exact hs ht.1 (g, v, h) (List.mem_cons_self ..) ht.2
      · exact h4 st (fun hc y hy => hs hc y (List.mem_cons_of_mem _ hy)) q hq ht
theorem keep_symm {keep : Keep} {a b : Heap} (h : keep = .no ∨ a = b) : keep = .no ∨ b = a := by
  rcases h with h | h
  · exact .inl h
  · exact .inr h.symm
/-- what is told of a return is joined as it should be -/
structure RelOk (F : Tab) (ρ : Nat → Int) (U : Nat → Vl → Vl) (keep : Keep) (RR : RelR) : Prop where
  eq : ∀ l l' h h' st, cvl F ρ U l = cvl F ρ U l' → (keep = .no ∨ hpc F ρ U h = hpc F ρ U h') → RR l h st → RR l' h' st
theorem join2_spec (hB : Base F ρ U) {keep : Keep} {RR : RelR} (hR : RelOk F ρ U keep RR) (a b : RetS) : Spec F (join2 keep a b) (fun r => tv F ρ U r.1 = (tv F ρ U a.1 || tv F ρ U b.1) ∧
    ∀ st, (tv F ρ U a.1 = true → RR a.2.1 a.2.2 st) → (tv F ρ U a.1 = false → tv F ρ U b.1 = true → RR b.2.1 b.2.2 st) → tv F ρ U r.1 = true → RR r.2.1 r.2.2 st) := by
  obtain ⟨g, v, h⟩ := a
  obtain ⟨g', v', h'⟩ := b
  unfold join2
  have kh : Spec F (joinH keep g h h') (fun hh => keep = .no ∨ hpc F ρ U hh = by_ F ρ U g (hpc F ρ U h) (hpc F ρ U h')) := by
    unfold joinH
    split
    · exact Spec.ret (.inl rfl)
    · exact (mergeHeap_spec hB h h').mono fun hh e => .inr e
  refine Spec.bnd (ite_tv hB) fun q => Spec.bnd (mergeL_spec (mergeV_spec hB 5 g) v v') fun l => Spec.bnd kh fun hh => Spec.ret fun k1 k2 k3 => ?_
  refine ⟨?_, fun st sa sb ht => ?_⟩
  · show tv F ρ U q = (tv F ρ U g || tv F ρ U g')
    rw [k3, hB.t1]; cases tv F ρ U g <;> rfl
  · have ht : tv F ρ U q = true := ht
    unfold by_ at k1 k2
    cases hg : tv F ρ U g with
    | true =>
      rw [hg] at k1 k2
      exact hR.eq v l h hh st k2.symm (keep_symm k1) (sa hg)
    | false =>
      rw [hg] at k1 k2
      have hg' : tv F ρ U g' = true := by rw [k3, hg] at ht; exact ht
      exact hR.eq v' l h' hh st k2.symm (keep_symm k1) (sb hg hg')
theorem foldR_spec (hB : Base F ρ U) {keep : Keep} {RR : RelR} (hR : RelOk F ρ U keep RR) : ∀ (q : RetS) (r : List RetS), Spec F (foldR keep q r) (fun m => tv F ρ U m.1 = (tv F ρ U q.1 || onR F ρ U r) ∧ ∀ st, SatR F ρ U RR (q :: r) st → tv F ρ U m.1 = true → RR m.2.1 m.2.2 st)
  | q, [] => Spec.ret ⟨by simp [onR], fun st h ht => h q (List.mem_cons_self ..) ht⟩
  | q, p :: r => by
    unfold foldR
    refine Spec.bnd (foldR_spec hB hR p r) fun m => (join2_spec hB hR q m).mono fun x h1 h2 => ?_
    refine ⟨?_, fun st hs ht => h1.2 st (fun hq => hs q (List.mem_cons_self ..) hq) (fun _ hm => h2.2 st (fun y hy => hs y (List.mem_cons_of_mem _ hy)) hm) ht⟩
    rw [h1.1, h2.1]; rfl
theorem eqRow_spec {a b : Option (List SV)} (h : eqRow a b = true) : a.map (cvl F ρ U) = b.map (cvl F ρ U) := by
  unfold eqRow at h
  split at h
  · rfl
  · exact congrArg some (allEq_spec (fun x y e => eqSV_spec 5 e) h)
  · cases h
theorem eqHeap_spec : ∀ {a b : HeapS}, eqHeap a b = true → hpc F ρ U a = hpc F ρ U b
  | [], [], _ => rfl
  | x :: r, y :: s, h => by
    rw [eqHeap, Bool.and_eq_true] at h
    have h1 : x.map (List.map (conc (raw F ρ U))) = _ := eqRow_spec (F := F) (ρ := ρ) (U := U) h.1
    have h2 : r.map (Option.map (List.map (conc (raw F ρ U)))) = _ := eqHeap_spec h.2
    rw [hpc, List.map_cons, h1, h2]
    rfl
  | [], _ :: _, h => by cases h
  | _ :: _, [], h => by cases h
theorem eqKeep_spec {keep : Keep} {h h' : HeapS} (e : eqKeep keep h h' = true) : keep = .no ∨ hpc F ρ U h = hpc F ρ U h' := by
  unfold eqKeep at e
  split at e
  · exact .inl rfl
  · exact .inr (eqHeap_spec e)
theorem addR_spec (hB : Base F ρ U) {keep : Keep} {RR : RelR} (hR : RelOk F ρ U keep RR) {g : Nat} {v : List SV} {h : HeapS} : ∀ (xs : List RetS), Spec F (addR keep g v h xs) (fun r => onR F ρ U r = (tv F ρ U g || onR F ρ U xs) ∧ ∀ st, (tv F ρ U g = true → RR v h st) → SatR F ρ U RR xs st → SatR F ρ U RR r st)
  | [] => Spec.ret ⟨rfl, fun st hs _ q hq ht => by
      rcases List.mem_cons.1 hq with rfl | hq
      · exact hs ht
      · cases hq⟩
  | (g', v', h') :: r => by
    unfold addR
    refine Spec.bif (fun he => ?_) fun _ => ?_
    · rw [Bool.and_eq_true] at he
      have e1 : cvl F ρ U v = cvl F ρ U v' := allEq_spec (fun x y e => eqSV_spec 5 e) he.1
      have e2 := eqKeep_spec (F := F) (ρ := ρ) (U := U) he.2
      refine Spec.bnd (ite_tv hB) fun q => Spec.ret fun k => ?_
      have k3 : tv F ρ U q = (tv F ρ U g || tv F ρ U g') := by rw [k, hB.t1]; cases tv F ρ U g <;> rfl
      refine ⟨?_, fun st h1 h2 x hx ht => ?_⟩
      · show (tv F ρ U q || onR F ρ U r) = (tv F ρ U g || (tv F ρ U g' || onR F ρ U r))
        rw [k3, Bool.or_assoc]
      · rcases List.mem_cons.1 hx with rfl | hx
        · have ht : tv F ρ U q = true := ht
          cases hg : tv F ρ U g with
          | true => exact hR.eq v v' h h' st e1 e2 (h1 hg)
          | false =>
            rw [k3, hg] at ht
            exact h2 (g', v', h') (List.mem_cons_self ..) ht
        · exact h2 x (List.mem_cons_of_mem _ hx) ht
    · refine Spec.bnd (addR_spec hB hR r) fun l => Spec.ret fun k => ?_
      obtain ⟨k1, k2⟩ := k
      refine ⟨?_, fun st h1 h2 x hx ht => ?_⟩
      · show (tv F ρ U g' || onR F ρ U l) = (tv F ρ U g || (tv F ρ U g' || onR F ρ U r))
        rw [k1]
        cases tv F ρ U g <;> cases tv F ρ U g' <;> rfl
      · rcases List.mem_cons.1 hx with rfl | hx
        · exact h2 (g', v', h') (List.mem_cons_self ..) ht
        · exact k2 st h1 (fun y hy => h2 y (List.mem_cons_of_mem _ hy)) x hx ht
theorem joinR_spec (hB : Base F ρ U) {keep : Keep} {RR : RelR} (hR : RelOk F ρ U keep RR) : ∀ (a b : List RetS), Spec F (joinR keep a b) (fun r => onR F ρ U r = (onR F ρ U a || onR F ρ U b) ∧ ∀ st, SatR F ρ U RR a st → SatR F ρ U RR b st → SatR F ρ U RR r st)
  | [], b => Spec.ret ⟨rfl, fun _ _ h => h⟩
  | (g, v, h) :: r, b => by
    unfold joinR
    refine Spec.bnd (addR_spec hB hR b) fun m => (joinR_spec hB hR r m).mono fun q h1 h2 => ?_
    obtain ⟨k1, k2⟩ := h1
    obtain ⟨k3, k4⟩ := h2
    refine ⟨?_, fun st sa sb => k2 st (fun y hy => sa y (List.mem_cons_of_mem _ hy)) (k4 st (fun hg => sa (g, v, h) (List.mem_cons_self ..) hg) sb)⟩
    show _ = ((tv F ρ U g || onR F ρ U r) || onR F ρ U b)
    rw [k1, k3]
    cases tv F ρ U g <;> cases onR F ρ U r <;> rfl
theorem addX_spec (hB : Base F ρ U) {id g : Nat} {s : SSt} : ∀ (xs : Exits), Spec F (addX id g s xs) (fun r => anyX F ρ U r = (tv F ρ U g || anyX F ρ U xs) ∧ ∀ j st, (tv F ρ U g = true → id = j ∧ StR F ρ U s st) → SatX F ρ U xs j st → SatX F ρ U r j st)
  | [] => Spec.ret ⟨rfl, fun j st h _ x hx ht => by
      rcases List.mem_cons.1 hx with rfl | hx
      · exact h ht
      · cases hx⟩
  | (id', g', s') :: r => by
    unfold addX
    refine Spec.bif (fun he => ?_) fun _ => ?_
    · refine Spec.bnd (ite_tv hB) fun q => Spec.bnd (mergeSt_spec hB) fun m => Spec.ret fun k1 k2 => ?_
      have k3 : tv F ρ U q = (tv F ρ U g || tv F ρ U g') := by rw [k2, hB.t1]; cases tv F ρ U g <;> rfl
      refine ⟨?_, fun j st h1 h2 x hx ht => ?_⟩
      · show (tv F ρ U q || anyX F ρ U r) = (tv F ρ U g || (tv F ρ U g' || anyX F ρ U r))
        rw [k3, Bool.or_assoc]
      · rcases List.mem_cons.1 hx with rfl | hx
        · have ht : tv F ρ U q = true := ht
          cases hg : tv F ρ U g with
          | true =>
            obtain ⟨a, b⟩ := h1 hg
            exact ⟨a, k1 st (by unfold by_; rw [hg]; exact b)⟩
          | false =>
            rw [k3, hg] at ht
            obtain ⟨a, b⟩ := h2 (id', g', s') (List.mem_cons_self ..) ht
            exact ⟨(beqT he).trans a, k1 st (by unfold by_; rw [hg]; exact b)⟩
        · exact h2 x (List.mem_cons_of_mem _ hx) ht
    · refine Spec.bnd (addX_spec hB r) fun l => Spec.ret fun h => ?_
      obtain ⟨k1, k2⟩ := h
      refine ⟨?_, fun j st h1 h2 x hx ht => ?_⟩
      · show (tv F ρ U g' || anyX F ρ U l) = (tv F ρ U g || (tv F ρ U g' || anyX F ρ U r))
        rw [k1]
        cases tv F ρ U g <;> cases tv F ρ U g' <;> rfl
      · rcases List.mem_cons.1 hx with rfl | hx
        · exact h2 (id', g', s') (List.mem_cons_self ..) ht
        · exact k2 j st h1 (fun y hy => h2 y (List.mem_cons_of_mem _ hy)) x hx ht
theorem joinX_spec (hB : Base F ρ U) : ∀ (xs ys : Exits), Spec F (joinX xs ys) (fun r => anyX F ρ U r = (anyX F ρ U xs || anyX F ρ U ys) ∧ ∀ j st, SatX F ρ U xs j st → SatX F ρ U ys j st → SatX F ρ U r j st)
  | [], ys => Spec.ret ⟨rfl, fun _ _ _ h => h⟩
  | (id, g, s) :: r, ys => by
    unfold joinX
    refine Spec.bnd (addX_spec hB ys) fun m => (joinX_spec hB r m).mono fun q h1 h2 => ?_
    obtain ⟨k1, k2⟩ := h1
    obtain ⟨k3, k4⟩ := h2
    refine ⟨?_, fun j st a b => k2 j st (fun y hy => a y (List.mem_cons_of_mem _ hy)) (k4 j st (fun hg => a (id, g, s) (List.mem_cons_self ..) hg) b)⟩
    show _ = ((tv F ρ U g || anyX F ρ U r) || anyX F ρ U ys)
    rw [k1, k3]
    cases tv F ρ U g <;> cases anyX F ρ U r <;> rfl
theorem outX_spec (hB : Base F ρ U) : ∀ (xs : Exits) (f : Nat), Spec F (outX xs f) (fun g => tv F ρ U g = (anyX F ρ U xs || tv F ρ U f))
  | [], f => Spec.ret rfl
  | x :: r, f => by
    unfold outX
    refine Spec.bnd (ite_tv hB) fun f' => (outX_spec hB r f').mono fun g h1 h2 => ?_
    show _ = ((tv F ρ U x.2.1 || anyX F ρ U r) || tv F ρ U f)
    rw [h1, h2, hB.t1]
    cases tv F ρ U x.2.1 <;> cases anyX F ρ U r <;> rfl
theorem outR_spec (hB : Base F ρ U) : ∀ (xs : List RetS) (f : Nat), Spec F (outR xs f) (fun g => tv F ρ U g = (onR F ρ U xs || tv F ρ U f))
  | [], f => Spec.ret rfl
  | x :: r, f => by
    unfold outR
    refine Spec.bnd (ite_tv hB) fun f' => (outR_spec hB r f').mono fun g h1 h2 => ?_
    show _ = ((tv F ρ U x.1 || onR F ρ U r) || tv F ρ U f)
    rw [h1, h2, hB.t1]
    cases tv F ρ U x.1 <;> cases onR F ρ U r <;> rfl
theorem outG_spec (hB : Base F ρ U) {r : List RetS} {xs : Exits} : Spec F (outG r xs) (fun g => tv F ρ U g = (anyX F ρ U xs || onR F ρ U r)) := by
  unfold outG
  refine Spec.bnd (outR_spec hB r 0) fun f => (outX_spec hB xs f).mono fun g h1 h2 => ?_
  rw [h1, h2, hB.t0, Bool.or_false]
/-- two ways, joined -/
structure JoinR (F : Tab) (ρ : Nat → Int) (U : Nat → Vl → Vl) (RR : RelR) (c : Nat) (ra rb : List RetS) (xa xb : Exits) (o : OutS) : Prop where
  on : onR F ρ U o.ret = bif tv F ρ U c then onR F ρ U ra else onR F ρ U rb
  any : anyX F ρ U o.exits = bif tv F ρ U c then anyX F ρ U xa else anyX F ρ U xb
  sr : ∀ st, (tv F ρ U c = true → SatR F ρ U RR ra st) → (tv F ρ U c = false → SatR F ρ U RR rb st) → SatR F ρ U RR o.ret st
  sx : ∀ j st, (tv F ρ U c = true → SatX F ρ U xa j st) → (tv F ρ U c = false → SatX F ρ U xb j st) → SatX F ρ U o.exits j st
theorem joinO_spec (hB : Base F ρ U) {keep : Keep} {RR : RelR} (hR : RelOk F ρ U keep RR) {norm : Option SSt} {c : Nat} {ra rb : List RetS} {xa xb : Exits} :
    Spec F (joinO keep norm c ra rb xa xb) (fun o => o.norm = norm ∧ JoinR F ρ U RR c ra rb xa xb o) := by
  unfold joinO
  refine Spec.bnd (maskR_spec hB (RR := RR) ra) fun ra' => Spec.bnd (maskR_spec hB (RR := RR) rb) fun rb' => Spec.bnd (joinR_spec hB hR ra' rb') fun r => Spec.bnd (maskX_spec hB xa) fun xa' => Spec.bnd (maskX_spec hB xb) fun xb' => Spec.bnd (joinX_spec hB xa' xb') fun x => Spec.ret fun ⟨h1, h1'⟩ ⟨h2, h2'⟩ ⟨h3, h3'⟩ ⟨h4, h4'⟩ ⟨h5, h5'⟩ ⟨h6, h6'⟩ => ?_
  have e1 : (tv F ρ U c == true) = tv F ρ U c := by cases tv F ρ U c <;> rfl
  have e2 : (tv F ρ U c == false) = !tv F ρ U c := by cases tv F ρ U c <;> rfl
  refine ⟨rfl, ?_, ?_, fun st a b => ?_, fun j st a b => ?_⟩
  · show onR F ρ U r = _
    rw [h4, h6, h5]
    cases tv F ρ U c <;> simp
  · show anyX F ρ U x = _
    rw [h1, h3, h2]
    cases tv F ρ U c <;> simp
  · exact h4' st (h6' st fun e => a (e1 ▸ e)) (h5' st fun e => b (by rw [e2] at e; simpa using e))
  · exact h1' j st (h3' j st fun e => a (e1 ▸ e)) (h2' j st fun e => b (by rw [e2] at e; simpa using e))
theorem normO_spec (hB : Base F ρ U) {c : Nat} {a b : Option SSt} : Spec F (normO c a b) (fun r => ∀ st, ((tv F ρ U c = true ∧ ∃ s, a = some s ∧ StR F ρ U s st) ∨ (tv F ρ U c = false ∧ ∃ s, b = some s ∧ StR F ρ U s st)) → ∃ s, r = some s ∧ StR F ρ U s st) := by
  unfold normO
  split
  · refine Spec.ret fun st h => ?_
    rcases h with ⟨_, s, hs, _⟩ | ⟨_, h⟩
    · cases hs
    · exact h
  · refine Spec.ret fun st h => ?_
    rcases h with ⟨_, h⟩ | ⟨_, s, hs, _⟩
    · exact h
    · cases hs
  · refine Spec.bnd (mergeSt_spec hB) fun m => Spec.ret fun h st k => ⟨m, rfl, h st ?_⟩
    unfold by_
    rcases k with ⟨e, s, hs, k⟩ | ⟨e, s, hs, k⟩
    · cases hs; rw [e]; exact k
    · cases hs; rw [e]; exact k
abbrev NR (F : Tab) (ρ : Nat → Int) (U : Nat → Vl → Vl) (norm : Option SSt) (st : St) : Prop := ∃ s, norm = some s ∧ StR F ρ U s st
theorem catchX_spec (hB : Base F ρ U) {id : Nat} : ∀ (xs : Exits) (norm : Option SSt), Spec F (catchX id norm xs) (fun q =>
    (∀ st, SatX F ρ U xs id st → (anyX F ρ U xs = true ∨ NR F ρ U norm st) → NR F ρ U q.1 st) ∧ (∀ st, SatX F ρ U xs id st → anyX F ρ U q.2 = false) ∧
    (∀ j st, j ≠ id → SatX F ρ U xs j st → anyX F ρ U q.2 = anyX F ρ U xs ∧ SatX F ρ U q.2 j st))
  | [], norm => Spec.ret ⟨fun st _ h => by
      rcases h with h | h
      · cases h
      · exact h, fun _ _ => rfl, fun j st _ h => ⟨rfl, h⟩⟩
  | (j, g, s) :: r, norm => by
    have tl : ∀ {i st}, SatX F ρ U ((j, g, s) :: r) i st → SatX F ρ U r i st := fun h y hy => h y (List.mem_cons_of_mem _ hy)
    have hd : ∀ {i st}, SatX F ρ U ((j, g, s) :: r) i st → tv F ρ U g = true → j = i ∧ StR F ρ U s st := fun h hg => h (j, g, s) (List.mem_cons_self ..) hg
    have an : anyX F ρ U ((j, g, s) :: r) = (tv F ρ U g || anyX F ρ U r) := rfl
    unfold catchX
    refine Spec.bif (fun he => ?_) fun he => ?_
    · have third : ∀ {i st}, i ≠ id → SatX F ρ U ((j, g, s) :: r) i st → tv F ρ U g = false := fun {i st} hi h => by
        cases hg : tv F ρ U g with
        | false => rfl
        | true => exact absurd ((hd h hg).1.symm.trans (beqT he)) hi
      split
      · refine (catchX_spec hB r (some s)).mono fun q ⟨h1, h2, h3⟩ => ⟨fun st hs h => ?_, fun st hs => h2 st (tl hs), fun i st hi hs => ?_⟩
        · refine h1 st (tl hs) ?_
          cases hg : tv F ρ U g with
          | true => exact .inr ⟨s, rfl, (hd hs hg).2⟩
          | false =>
            rcases h with h | ⟨n, hn, _⟩
            · rw [an, hg] at h; exact .inl h
            · cases hn
        · obtain ⟨a, b⟩ := h3 i st hi (tl hs)
          exact ⟨by rw [a, an, third hi hs]; rfl, b⟩
      · rename_i n
        refine Spec.bnd (mergeSt_spec hB) fun m => (catchX_spec hB r (some m)).mono fun q ⟨h1, h2, h3⟩ hm => ⟨fun st hs h => ?_, fun st hs => h2 st (tl hs), fun i st hi hs => ?_⟩
        · refine h1 st (tl hs) ?_
          cases hg : tv F ρ U g with
          | true => exact .inr ⟨m, rfl, hm st (by unfold by_; rw [hg]; exact (hd hs hg).2)⟩
          | false =>
            rcases h with h | ⟨n', hn, hn'⟩
            · rw [an, hg] at h; exact .inl h
            · cases hn
              exact .inr ⟨m, rfl, hm st (by unfold by_; rw [hg]; exact hn')⟩
        · obtain ⟨a, b⟩ := h3 i st hi (tl hs)
          exact ⟨by rw [a, an, third hi hs]; rfl, b⟩
    · have hne : j ≠ id := fun e => by rw [e, Nat.beq_refl] at he; cases he
      refine Spec.bnd (catchX_spec hB r norm) fun q => Spec.ret fun ⟨h1, h2, h3⟩ => ⟨fun st hs h => ?_, fun st hs => ?_, fun i st hi hs => ?_⟩
      · have hg : tv F ρ U g = false := by
          cases hg : tv F ρ U g with
          | false => rfl
          | true => exact absurd (hd hs hg).1 hne
        refine h1 st (tl hs) ?_
        rcases h with h | h
        · rw [an, hg] at h; exact .inl h
        · exact .inr h
      · have hg : tv F ρ U g = false := by
          cases hg : tv F ρ U g with
          | false => rfl
          | true => exact absurd (hd hs hg).1 hne
        show (tv F ρ U g || anyX F ρ U q.2) = false
        rw [hg, h2 st (tl hs)]; rfl
      · obtain ⟨a, b⟩ := h3 i st hi (tl hs)
        refine ⟨?_, fun y hy ht => ?_⟩
        · show (tv F ρ U g || anyX F ρ U q.2) = (tv F ρ U g || anyX F ρ U r)
          rw [a]
        · rcases List.mem_cons.1 hy with rfl | hy
          · exact hd hs ht
          · exact b y hy ht

/-! ### code -/
abbrev CodeR (F : Tab) (ρ : Nat → Int) (U : Nat → Vl → Vl) (RR : RelR) (pc : PC) (s : SSt) (f : St → (Ex → St → Ans) → Ans) (o : OutS) : Prop :=
  ∀ st, StR F ρ U s st → pcH F ρ U pc → ∃ e st', OutR F ρ U RR o e st' ∧ ∀ k, f st k = k e st'
theorem join_left {RR : RelR} {c : Nat} {a b o : OutS} (hj : JoinR F ρ U RR c a.ret b.ret a.exits b.exits o) (hn : ∀ st, NR F ρ U a.norm st → NR F ρ U o.norm st) (hc : tv F ρ U c = true) {e : Ex} {st : St} (h : OutR F ρ U RR a e st) : OutR F ρ U RR o e st := by
  have o1 : onR F ρ U o.ret = onR F ρ U a.ret := by rw [hj.on, hc]; rfl
  have o2 : anyX F ρ U o.exits = anyX F ρ U a.exits := by rw [hj.any, hc]; rfl
  have nf : tv F ρ U c = false → False := fun e => by rw [hc] at e; cases e
  cases e with
  | normal =>
    obtain ⟨h1, h2, h3⟩ := h
    exact ⟨hn st h1, o1.trans h2, o2.trans h3⟩
  | exit id =>
    obtain ⟨h1, h2, h3⟩ := h
    exact ⟨o1.trans h1, o2.trans h2, hj.sx id st (fun _ => h3) fun e => (nf e).elim⟩
  | ret =>
    obtain ⟨h1, h2, h3⟩ := h
    exact ⟨o2.trans h1, o1.trans h2, hj.sr st (fun _ => h3) fun e => (nf e).elim⟩
theorem join_right {RR : RelR} {c : Nat} {a b o : OutS} (hj : JoinR F ρ U RR c a.ret b.ret a.exits b.exits o) (hn : ∀ st, NR F ρ U b.norm st → NR F ρ U o.norm st) (hc : tv F ρ U c = false) {e : Ex} {st : St} (h : OutR F ρ U RR b e st) : OutR F ρ U RR o e st := by
  have o1 : onR F ρ U o.ret = onR F ρ U b.ret := by rw [hj.on, hc]; rfl
  have o2 : anyX F ρ U o.exits = anyX F ρ U b.exits := by rw [hj.any, hc]; rfl
  have nf : tv F ρ U c = true → False := fun e => by rw [hc] at e; cases e
  cases e with
  | normal =>
    obtain ⟨h1, h2, h3⟩ := h
    exact ⟨hn st h1, o1.trans h2, o2.trans h3⟩
  | exit id =>
    obtain ⟨h1, h2, h3⟩ := h
    exact ⟨o1.trans h1, o2.trans h2, hj.sx id st (fun e => (nf e).elim) fun _ => h3⟩
  | ret =>
    obtain ⟨h1, h2, h3⟩ := h
    exact ⟨o2.trans h1, o1.trans h2, hj.sr st (fun e => (nf e).elim) fun _ => h3⟩
/-- one statement behind another one, as the evaluator takes it -/
def seqK (f g : St → (Ex → St → Ans) → Ans) : St → (Ex → St → Ans) → Ans := fun st k => f st fun
  | .normal, st' => g st' k
  | e, st' => k e st'
theorem exThen_spec (hB : Base F ρ U) {keep : Keep} {RR : RelR} (hR : RelOk F ρ U keep RR) {go : ExF} {b : Code} {g : St → (Ex → St → Ans) → Ans} (hgo : ∀ pc s, Spec F (go b pc s) (CodeR F ρ U RR pc s g)) {pc : PC} {o : OutS} :
    Spec F (exThen go keep b pc o) (fun o' => ∀ e st, pcH F ρ U pc → OutR F ρ U RR o e st → ∃ e' st', OutR F ρ U RR o' e' st' ∧ ∀ k : Ex → St → Ans, (match e with | .normal => g st k | e => k e st) = k e' st') := by
  unfold exThen
  split
  · rename_i r xs
    refine Spec.ret fun e st _ h => ⟨e, st, h, fun k => ?_⟩
    cases e with
    | normal =>
      obtain ⟨⟨s, hs, _⟩, _⟩ := h
      cases hs
    | exit id => rfl
    | ret => rfl
  · rename_i s1 r xs
    refine Spec.bnd (outG_spec hB) fun gd => ?_
    unfold exNext
    refine Spec.bif (fun h0 => ?_) fun h0 => ?_
    · refine (hgo pc s1).mono fun o' h1 h2 e st hp h => ?_
      rw [beqT h0, hB.t0] at h2
      cases e with
      | normal =>
        obtain ⟨⟨s, hs, hst⟩, _⟩ := h
        cases hs
        exact h1 st hst hp
      | exit id =>
        have : anyX F ρ U xs = true := h.2.1
        rw [this] at h2; cases h2
      | ret =>
        have : onR F ρ U r = true := h.2.1
        rw [this, Bool.or_true] at h2; cases h2
    · refine Spec.bnd (try_spec (hgo _ s1)) fun o2 => ?_
      unfold exAfter
      split
      case h_2 =>
        refine Spec.bnd (needS_spec hB) fun _ => Spec.ret fun h0 _ h2 e st hp h => ?_
        have hg := h0 hp
        cases e with
        | normal =>
          obtain ⟨_, k1, k2⟩ := h
          have k1 : onR F ρ U r = false := k1
          have k2 : anyX F ρ U xs = false := k2
          rw [hg, k1, k2] at h2
          cases h2
        | exit id => exact ⟨.exit id, st, h, fun k => rfl⟩
        | ret => exact ⟨.ret, st, h, fun k => rfl⟩
      rename_i o2
      refine (joinO_spec hB hR).mono fun o' hj h1 h2 e st hp h => ?_
      obtain ⟨hn, hj⟩ := hj
      have hj' : JoinR F ρ U RR gd (⟨none, r, xs⟩ : OutS).ret o2.ret (⟨none, r, xs⟩ : OutS).exits o2.exits o' := hj
      cases e with
      | normal =>
        obtain ⟨⟨s, hs, hst⟩, k1, k2⟩ := h
        cases hs
        have k1 : onR F ρ U r = false := k1
        have k2 : anyX F ρ U xs = false := k2
        have hg : tv F ρ U gd = false := by rw [h2, k1, k2]; rfl
        obtain ⟨e', st', q1, q2⟩ := h1 o2 rfl st hst (hp.cons hg)
        exact ⟨e', st', join_right hj' (fun st hh => by rw [hn]; exact hh) hg q1, q2⟩
      | exit id =>
        obtain ⟨k1, k2, k3⟩ := h
        have k2' : anyX F ρ U xs = true := k2
        have hg : tv F ρ U gd = true := by rw [h2, k2']; rfl
        refine ⟨.exit id, st, join_left hj' (fun st hh => ?_) hg ⟨k1, k2, k3⟩, fun k => rfl⟩
        obtain ⟨s, hs, _⟩ := hh
        cases hs
      | ret =>
        obtain ⟨k1, k2, k3⟩ := h
        have k2' : onR F ρ U r = true := k2
        have hg : tv F ρ U gd = true := by rw [h2, k2', Bool.or_true]
        refine ⟨.ret, st, join_left hj' (fun st hh => ?_) hg ⟨k1, k2, k3⟩, fun k => rfl⟩
        obtain ⟨s, hs, _⟩ := hh
        cases hs
theorem st_ok {st : St} (h : st.ok = true) : (⟨st.tmps, st.heap, true && st.ok⟩ : St) = st := by
  cases st with
  | mk a b c => rfl
theorem execS_spec (hB : Base F ρ U) {E : EnvS} {Ee : Env} (hE : EnvR F ρ U E Ee) {keep : Keep} {RR : RelR} (hR : RelOk F ρ U keep RR) {res : PC → SSt → M (List SV)}
    (hres : ∀ pc s, Spec F (res pc s) (fun l => ∀ st, StR F ρ U s st → pcH F ρ U pc → RR l (keepH keep s.heap) st)) :
    ∀ (n : Nat) (c : Code) (pc : PC) (s : SSt), Spec F (execS E keep res n c pc s) (CodeR F ρ U RR pc s (codeK Ee n c))
  | 0, _, _, _ => Spec.non
  | n + 1, c, pc, s => by
    have ih := execS_spec hB hE hR hres n
    unfold execS
    split
    · exact Spec.ret fun st hs _ => ⟨.normal, st, ⟨⟨s, rfl, hs⟩, rfl, rfl⟩, fun k => rfl⟩
    · rename_i id ops draw
      refine Spec.bnd (regionS_spec hB hE) fun s' => Spec.ret fun h st hs hp => ?_
      obtain ⟨st', e, g⟩ := h st hs hp
      refine ⟨.normal, st', ⟨⟨s', rfl, g⟩, rfl, rfl⟩, fun k => ?_⟩
      simp only [codeK, e]
    · rename_i a b
      refine Spec.bnd (ih a pc s) fun o => (exThen_spec hB hR (fun pc s => ih b pc s)).mono fun o' h1 h2 st hs hp => ?_
      obtain ⟨e, st1, q1, q2⟩ := h2 st hs hp
      obtain ⟨e', st2, q3, q4⟩ := h1 e st1 hp q1
      refine ⟨e', st2, q3, fun k => ?_⟩
      rw [← q4 k, codeK, q2]
      cases e <;> rfl
    · rename_i x a b
      refine Spec.bnd (rdS_spec hB) fun v => ?_
      unfold exCond
      refine Spec.bnd (optB hB) fun f0 => Spec.bnd (knowS_spec hB) fun f => ?_
      have key : ∀ st, StR F ρ U s st → pcH F ρ U pc → (pcH F ρ U pc → tv F ρ U f = tv F ρ U f0) → cv F ρ U v = .bool (tv F ρ U f0) → (∀ h st, StR F ρ U ⟨s.tmps, h⟩ st → pcH F ρ U pc → evl st.tmps x = (cv F ρ U v, true)) → ∀ k, codeK Ee (n + 1) (.cond x a b) st k = bif tv F ρ U f then codeK Ee n a st k else codeK Ee n b st k := fun st hs hp h0 h1 h2 k => by
        have e := h2 s.heap st hs hp
        rw [h1, ← h0 hp] at e
        simp only [codeK, e, st_ok hs.ok]
      refine Spec.bif (fun hz => ?_) fun _ => Spec.bif (fun hz => ?_) fun _ => ?_
      · refine (ih a pc s).mono fun o h1 h0 h2 h3 st hs hp => ?_
        obtain ⟨e, st', q1, q2⟩ := h1 st hs hp
        refine ⟨e, st', q1, fun k => ?_⟩
        rw [key st hs hp h0 h2 h3, beqT hz, hB.t1, cond_true, q2]
      · refine (ih b pc s).mono fun o h1 h0 h2 h3 st hs hp => ?_
        obtain ⟨e, st', q1, q2⟩ := h1 st hs hp
        refine ⟨e, st', q1, fun k => ?_⟩
        rw [key st hs hp h0 h2 h3, beqT hz, hB.t0, cond_false, q2]
      · refine Spec.bnd (try_spec (ih a _ s)) fun oa => ?_
        unfold exElse
        split
        · rename_i oa
          refine Spec.bnd (try_spec (ih b _ s)) fun ob => ?_
          unfold exBoth
          split
          · rename_i ob
            refine Spec.bnd (normO_spec hB) fun nm => (joinO_spec hB hR).mono fun o hj h1 h2 h3 h0 h4 h5 st hs hp => ?_
            obtain ⟨hn, hj⟩ := hj
            cases hf : tv F ρ U f with
            | true =>
              obtain ⟨e, st', q1, q2⟩ := h3 _ rfl st hs (hp.cons hf)
              refine ⟨e, st', join_left hj (fun st hh => ?_) hf q1, fun k => ?_⟩
              · rw [hn]; exact h1 st (.inl ⟨hf, hh⟩)
              · rw [key st hs hp h0 h4 h5, hf, cond_true, q2]
            | false =>
              obtain ⟨e, st', q1, q2⟩ := h2 _ rfl st hs (hp.cons hf)
              refine ⟨e, st', join_right hj (fun st hh => ?_) hf q1, fun k => ?_⟩
              · rw [hn]; exact h1 st (.inr ⟨hf, hh⟩)
              · rw [key st hs hp h0 h4 h5, hf, cond_false, q2]
          · refine Spec.bnd (needS_spec hB) fun _ => Spec.ret fun h1 h2 h3 h0 h4 h5 st hs hp => ?_
            have hf := h1 hp
            obtain ⟨e, st', q1, q2⟩ := h3 _ rfl st hs (hp.cons hf)
            refine ⟨e, st', q1, fun k => ?_⟩
            rw [key st hs hp h0 h4 h5, hf, cond_true, q2]
        · refine Spec.bnd (notS_spec hB) fun nf => Spec.bnd (needS_spec hB) fun _ => (ih b _ s).mono fun o h1 h2 h3 h4 h0 h5 h6 st hs hp => ?_
          have hf : tv F ρ U f = false := by
            have := h2 hp
            rw [h3] at this
            simpa using this
          obtain ⟨e, st', q1, q2⟩ := h1 st hs (hp.cons hf)
          refine ⟨e, st', q1, fun k => ?_⟩
          rw [key st hs hp h0 h5 h6, hf, cond_false, q2]
    · rename_i id a
      refine Spec.bnd (ih a pc s) fun o => ?_
      unfold exBlock
      refine Spec.bnd (catchX_spec hB _ _) fun q => Spec.ret fun ⟨h1, h2, h3⟩ h4 st hs hp => ?_
      obtain ⟨e, st', q1, q2⟩ := h4 st hs hp
      have ck : ∀ k, codeK Ee (n + 1) (.block id a) st k = (match e with | .exit j => bif Nat.beq j id then k .normal st' else k (.exit j) st' | e => k e st') := fun k => by
        rw [codeK, q2]
        cases e <;> rfl
      cases e with
      | normal =>
        obtain ⟨k1, k2, k3⟩ := q1
        exact ⟨.normal, st', ⟨h1 st' (SatX.off k3 id st') (.inr k1), k2, h2 st' (SatX.off k3 id st')⟩, ck⟩
      | exit j =>
        obtain ⟨k1, k2, k3⟩ := q1
        by_cases hj : j = id
        · subst hj
          refine ⟨.normal, st', ⟨h1 st' k3 (.inl k2), k1, h2 st' k3⟩, fun k => ?_⟩
          rw [ck]
          dsimp only
          rw [Nat.beq_refl, cond_true]
        · obtain ⟨a1, a2⟩ := h3 j st' hj k3
          refine ⟨.exit j, st', ⟨k1, a1.trans k2, a2⟩, fun k => ?_⟩
          rw [ck]
          dsimp only
          have : Nat.beq j id = false := by
            cases hb : Nat.beq j id with
            | false => rfl
            | true => exact absurd (beqT hb) hj
          rw [this, cond_false]
      | ret =>
        obtain ⟨k1, k2, k3⟩ := q1
        exact ⟨.ret, st', ⟨h2 st' (SatX.off k1 id st'), k2, k3⟩, ck⟩
    · rename_i a
      refine Spec.bnd (ih a pc s) fun o => (exThen_spec hB hR (fun pc s => ih (.loop a) pc s)).mono fun o' h1 h2 st hs hp => ?_
      obtain ⟨e, st1, q1, q2⟩ := h2 st hs hp
      obtain ⟨e', st2, q3, q4⟩ := h1 e st1 hp q1
      refine ⟨e', st2, q3, fun k => ?_⟩
      rw [← q4 k, codeK, q2]
      cases e <;> rfl
    · rename_i id
      refine Spec.ret fun st hs _ => ⟨.exit id, st, ⟨rfl, ?_, fun x hx _ => ?_⟩, fun k => rfl⟩
      · show (tv F ρ U 1 || false) = true
        rw [hB.t1]; rfl
      · rcases List.mem_cons.1 hx with rfl | hx
        · exact ⟨rfl, hs⟩
        · cases hx
    · rename_i a
      refine (ih a pc s).mono fun o h1 st hs hp => ?_
      obtain ⟨e, st', q1, q2⟩ := h1 st hs hp
      exact ⟨e, st', q1, fun k => by rw [codeK, q2]⟩
    · exact Spec.ret fun st hs _ => ⟨.normal, st, ⟨⟨s, rfl, hs⟩, rfl, rfl⟩, fun k => rfl⟩
    · refine Spec.bnd (hres pc s) fun l => Spec.ret fun h st hs hp => ?_
      refine ⟨.ret, st, ⟨rfl, ?_, fun q hq _ => ?_⟩, fun k => rfl⟩
      · show (tv F ρ U 1 || false) = true
        rw [hB.t1]; rfl
      · rcases List.mem_cons.1 hq with rfl | hq
        · exact h st hs hp
        · cases hq
    · exact Spec.non
end
end Sx
end
noncomputable section
namespace Sx
open Go Ev

section
variable {F : Tab} {ρ : Nat → Int} {U : Nat → Vl → Vl}
variable [Frn] [SFrn]

/-! ### functions -/
/-- what a return has told -/
structure RetR (F : Tab) (ρ : Nat → Int) (U : Nat → Vl → Vl) (P : Program) (rs : List ResultVar) (keep : Keep) (l : List SV) (h : HeapS) (st : St) : Prop where
  ok : st.ok = true
  res : resAll P st rs = some (cvl F ρ U l, true)
  hp : KeepR F ρ U keep st.heap h
theorem keepR_eq {keep : Keep} {H : Heap} {h h' : HeapS} (e : keep = .no ∨ hpc F ρ U h = hpc F ρ U h') (k : KeepR F ρ U keep H h) : KeepR F ρ U keep H h' := by
  cases keep with
  | no => trivial
  | full =>
    rcases e with e | e
    · cases e
    · exact Eq.trans (show H = hpc F ρ U h from k) e
  | cut n =>
    rcases e with e | e
    · cases e
    · exact Eq.trans (show _ = hpc F ρ U h from k) e
theorem retR_ok {P : Program} {rs : List ResultVar} {keep : Keep} : RelOk F ρ U keep (RetR F ρ U P rs keep) := ⟨fun l l' h h' st e1 e2 r => ⟨r.ok, by rw [← e1]; exact r.res, keepR_eq e2 r.hp⟩⟩
theorem resOne_spec (hB : Base F ρ U) {P : Program} {pc : PC} {s : SSt} (r : ResultVar) : Spec F (resOne P pc s r) (fun v => ∀ st, StR F ρ U s st → pcH F ρ U pc → resD P st r = some (cv F ρ U v, true)) := by
  cases r with
  | tmp i => exact (rdS_spec hB).mono fun v h st hs hp => congrArg some (h s.heap st hs hp)
  | cell a ty =>
    refine Spec.bnd (rdS_spec hB) fun v => Spec.opt.mono fun x e h st hs hp => ?_
    have h1 : st.tmps.getD a (undef, false) = (cv F ρ U v, true) := h s.heap st hs hp
    have h2 : st.heap = hpc F ρ U s.heap := hs.hp
    unfold resD
    simp only [h1, h2, loadS_spec e]
theorem resS_spec (hB : Base F ρ U) {P : Program} : ∀ (rs : List ResultVar) (pc : PC) (s : SSt), Spec F (resS P rs pc s) (fun l => ∀ st, StR F ρ U s st → pcH F ρ U pc → resAll P st rs = some (cvl F ρ U l, true))
  | [], _, _ => Spec.ret fun _ _ _ => rfl
  | r :: rs, pc, s => by
    unfold resS
    refine Spec.bnd (resOne_spec hB r) fun v => Spec.bnd (resS_spec hB rs pc s) fun l => Spec.ret fun h1 h2 st hs hp => ?_
    unfold resAll
    simp only [h2 st hs hp, h1 st hs hp]
    rfl
theorem oneOr_spec (l : List SV) : oneOr (cvl F ρ U l) = cv F ρ U (oneOrS l) := by
  match l with
  | [] =>
    show Value.tuple (cvl F ρ U []).toArray = cv F ρ U (.tuple [])
    rw [cv_tuple]
  | [v] => rfl
  | a :: b :: r =>
    show Value.tuple (cvl F ρ U (a :: b :: r)).toArray = cv F ρ U (.tuple (a :: b :: r))
    rw [cv_tuple]
theorem finO_spec (hB : Base F ρ U) {keep : Keep} {RR : RelR} (hR : RelOk F ρ U keep RR) {res : PC → SSt → M (List SV)}
    (hres : ∀ pc s, Spec F (res pc s) (fun l => ∀ st, StR F ρ U s st → pcH F ρ U pc → RR l (keepH keep s.heap) st)) {pc : PC} {o : OutS} :
    Spec F (finO keep res pc o) (fun r => ∀ e st, pcH F ρ U pc → OutR F ρ U RR o e st → (∀ id, e ≠ .exit id) ∧ ∃ l, r.1 = oneOrS l ∧ RR l r.2 st) := by
  unfold finO
  split
  · rename_i q r
    refine Spec.bnd (foldR_spec hB hR q r) fun m => Spec.ret fun hm e st hp h => ?_
    obtain ⟨m1, m2⟩ := hm
    cases e with
    | normal =>
      obtain ⟨⟨s, hs, _⟩, _⟩ := h
      cases hs
    | exit id => cases h.2.1
    | ret =>
      obtain ⟨_, k1, k2⟩ := h
      exact ⟨fun _ hh => (by cases hh), m.2.1, rfl, m2 st k2 (m1.trans k1)⟩
  · rename_i s
    refine Spec.bnd (hres pc s) fun l => Spec.ret fun h1 e st hp h => ?_
    cases e with
    | normal =>
      obtain ⟨⟨s', hs, h2⟩, _⟩ := h
      cases hs
      exact ⟨fun _ hh => (by cases hh), l, rfl, h1 st h2 hp⟩
    | exit id => cases h.2.1
    | ret => cases h.2.1
  · rename_i s q0 r
    refine Spec.bnd (foldR_spec hB hR q0 r) fun q => Spec.bnd (hres _ s) fun m => ?_
    unfold finR
    refine Spec.bnd (join2_spec hB hR q _) fun q' => Spec.ret fun ⟨h1, h2⟩ h3 ⟨m1, m2⟩ e st hp h => ?_
    have hon : tv F ρ U q'.1 = true := by
      rw [h1]
      show (_ || tv F ρ U 1) = true
      rw [hB.t1, Bool.or_true]
    cases e with
    | normal =>
      obtain ⟨⟨s', hs, k1⟩, k2, _⟩ := h
      cases hs
      have k2 : tv F ρ U q.1 = false := m1.trans k2
      exact ⟨fun _ hh => (by cases hh), q'.2.1, rfl, h2 st (fun hh => by rw [k2] at hh; cases hh) (fun _ _ => h3 st k1 (hp.cons k2)) hon⟩
    | exit id => cases h.2.1
    | ret =>
      obtain ⟨_, k1, k2⟩ := h
      have k3 : tv F ρ U q.1 = true := m1.trans k1
      exact ⟨fun _ hh => (by cases hh), q'.2.1, rfl, h2 st (fun hh => m2 st k2 hh) (fun hh => by rw [k3] at hh; cases hh) hon⟩
  · exact Spec.non
def fillR (d : Nat) : List SV → Nat → TS (SV × Nat) → TS (SV × Nat)
  | [], _, t => t
  | v :: r, i, t => fillR d r (i + 1) (setSR d t i (some (v, 1)))
theorem fillA_eq {β : Type} (d : Nat) : ∀ (l : List SV) (i : Nat) (t : TS (SV × Nat)) (k : TS (SV × Nat) → β), fillA d l i t k = k (fillR d l i t)
  | [], _, _, _ => rfl
  | v :: r, i, t, k => by
    unfold fillA
    rw [forceV_eq, setS_eq, force_eq, fillA_eq d r]
    rfl
theorem fillR_get (d : Nat) : ∀ (l : List SV) (i : Nat) (t : TS (SV × Nat)) (j : Nat), i + l.length ≤ 4 ^ d → j < 4 ^ d → getS d (fillR d l i t) j = if i ≤ j ∧ j < i + l.length then (l[j - i]?).map (fun v => (v, 1)) else getS d t j
  | [], i, t, j, _, _ => by
    rw [if_neg (by simp)]
    rfl
  | v :: r, i, t, j, h, hj => by
    rw [List.length_cons] at h ⊢
    show getS d (fillR d r (i + 1) (setSR d t i (some (v, 1)))) j = _
    rw [fillR_get d r (i + 1) _ j (by omega) hj]
    by_cases h1 : i + 1 ≤ j ∧ j < i + 1 + r.length
    · rw [if_pos h1, if_pos (by omega), show j - i = (j - (i + 1)) + 1 by omega, List.getElem?_cons_succ]
    · rw [if_neg h1, getS_set d t i _ j (by omega) hj]
      by_cases h2 : j = i
      · subst h2
        rw [if_pos rfl, if_pos (by omega), Nat.sub_self]
        rfl
      · rw [if_neg h2, if_neg (by omega)]
def startSS (fn : Func) (args : List SV) (h : HeapS) : SSt :=
  ⟨⟨args.length + (fn.ntmps - args.length), depthOf (args.length + (fn.ntmps - args.length)), fillR (depthOf (args.length + (fn.ntmps - args.length))) args 0 .nil⟩, h⟩
theorem startC_eq {β : Type} (fn : Func) (args : List SV) (h : HeapS) (k : SSt → β) : startC fn args h k = k (startSS fn args h) := by
  unfold startC
  rw [force_eq, force_eq, fillA_eq]
  rfl
theorem depth_ok {n : Nat} (h : n ≤ 4096) : n ≤ 4 ^ depthOf n := by
  unfold depthOf
  cases h1 : Nat.ble n 16 with
  | true => rw [cond_true]; exact Nat.le_of_ble_eq_true h1
  | false =>
    cases h2 : Nat.ble n 64 with
    | true => rw [cond_true]; exact Nat.le_of_ble_eq_true h2
    | false =>
      cases h3 : Nat.ble n 256 with
      | true => rw [cond_true]; exact Nat.le_of_ble_eq_true h3
      | false =>
        cases h4 : Nat.ble n 1024 with
        | true => rw [cond_true]; exact Nat.le_of_ble_eq_true h4
        | false => exact h
theorem start_spec (hB : Base F ρ U) {fn : Func} {args : List SV} {h : HeapS} (hn : args.length + (fn.ntmps - args.length) ≤ 4096) : StR F ρ U (startSS fn args h) (startS fn (cvl F ρ U args) (hpc F ρ U h)) := by
  have hd := depth_ok hn
  refine ⟨rfl, ⟨by simp [startSS, startS, cvl], hd⟩, fun i => ?_, rfl⟩
  unfold startSS startS
  dsimp only
  generalize depthOf (args.length + (fn.ntmps - args.length)) = d at hd
  rw [len_cvl]
  show SlotR F ρ U (bif Nat.blt i (args.length + (fn.ntmps - args.length)) then getS d (fillR d args 0 .nil) i else none) _
  cases hi : Nat.blt i (args.length + (fn.ntmps - args.length)) with
  | false => exact SlotR.none
  | true =>
    have hin := bltT hi
    rw [cond_true, fillR_get d args 0 .nil i (by omega) (by omega), getS_nil]
    by_cases h1 : 0 ≤ i ∧ i < 0 + args.length
    · rw [if_pos h1]
      have hl : i < args.length := by omega
      rw [show i - 0 = i from rfl, List.getElem?_eq_getElem hl]
      intro v dd e
      cases e
      have hl2 : i < ((cvl F ρ U args).map fun v => (v, true)).length := by rw [List.length_map, len_cvl]; exact hl
      rw [hB.t1, cond_true, List.getD_eq_getElem?_getD, List.getElem?_append_left hl2, List.getElem?_map]
      show ((args.map (conc (raw F ρ U)))[i]?.map fun v => (v, true)).getD _ = _
      rw [List.getElem?_map, List.getElem?_eq_getElem hl]
      rfl
    · rw [if_neg h1]; exact SlotR.none
/-- a symbolic function answers as the other one -/
def SymOk (F : Tab) (ρ : Nat → Int) (U : Nat → Vl → Vl) (G : Sig) (e : SymF) : Prop := ∀ pc args, Spec F (e pc args) (fun v => pcH F ρ U pc → G (cvl F ρ U args) = some (cv F ρ U v, true))
structure ListR (F : Tab) (ρ : Nat → Int) (U : Nat → Vl → Vl) (l : List (Nat × SymF)) (o : Orc) : Prop where
  h0 : ∀ id, seekS id l = none → o id = none
  h1 : ∀ id e, seekS id l = some e → ∃ G, o id = some G ∧ SymOk F ρ U G e
theorem ListR.nil : ListR F ρ U [] (fun f => seek f []) := ⟨fun _ _ => rfl, fun _ _ h => by cases h⟩
theorem ListR.cons {f : Nat} {e : SymF} {G : Sig} {l : List (Nat × SymF)} {m : List (Nat × Sig)} (h : SymOk F ρ U G e) (k : ListR F ρ U l (fun f => seek f m)) : ListR F ρ U ((f, e) :: l) (fun g => seek g ((f, G) :: m)) := by
  refine ⟨fun id h0 => ?_, fun id e' h1 => ?_⟩
  · unfold seekS at h0
    unfold seek
    cases hb : Nat.beq id f with
    | true => rw [hb] at h0; cases h0
    | false =>
      rw [hb] at h0
      have := k.h0 id h0
      simpa [hb] using this
  · unfold seekS at h1
    unfold seek
    cases hb : Nat.beq id f with
    | true =>
      rw [hb] at h1
      cases h1
      exact ⟨G, by simp, h⟩
    | false =>
      rw [hb] at h1
      obtain ⟨G', g1, g2⟩ := k.h1 id e' h1
      exact ⟨G', by simpa using g1, g2⟩
theorem funS_spec (hB : Base F ρ U) (hfr : FrnR F ρ U) {P : Program} {ext orc : List (Nat × SymF)} {exte orce : Orc} {us : List FuncId} {cf : Nat} (hx : ListR F ρ U ext exte) (ho : ListR F ρ U orc orce) :
    ∀ (d : Nat) (keep : Keep) (pc : PC) (f : FuncId) (args : List SV) (h : HeapS), Spec F (funS P ext orc us cf d keep pc f args h) (fun r => pcH F ρ U pc → ∃ h', funD P exte orce us cf d f (cvl F ρ U args) (hpc F ρ U h) = some (cv F ρ U r.1, h', true) ∧ KeepR F ρ U keep h' r.2)
  | 0, _, _, _, _, _ => Spec.non
  | d + 1, keep, pc, f, args, h => by
    unfold funS
    split
    · rename_i g hg
      obtain ⟨G, g1, g2⟩ := ho.h1 f g hg
      refine Spec.bnd (g2 pc args) fun v => Spec.ret fun h1 hp => ⟨hpc F ρ U h, ?_, KeepR.of⟩
      unfold funD
      simp only [g1, h1 hp]
    · rename_i hg
      have h0 := ho.h0 f hg
      refine Spec.bif (fun hu => ?_) fun hu => ?_
      rotate_left
      · split
        · rename_i g hg
          obtain ⟨G, g1, g2⟩ := hfr.cons f g hg
          refine Spec.bnd (g2 pc args h) fun v => Spec.ret fun h1 hp => ⟨hpc F ρ U h, ?_, KeepR.of⟩
          unfold funD
          simp only [h0, hu, cond_false, g1, h1 hp, List.map_nil, List.append_nil]
        · exact Spec.non
      split
      · rename_i fn hf
        split
        · rename_i c hc
          have hE : EnvR F ρ U ⟨P, fun f => seekS f ext, funS P ext orc us cf d, false⟩ ⟨P, exte, funD P exte orce us cf d, false, false⟩ := ⟨rfl, rfl, rfl, hfr, hx.h0, fun id e he pc args => by
              obtain ⟨G, g1, g2⟩ := hx.h1 id e he
              exact (g2 pc args).mono fun v hv hp => ⟨G, g1, hv hp⟩, fun keep pc f args h => funS_spec hB hfr hx ho d keep pc f args h⟩
          have hres : ∀ pc s, Spec F (resS P fn.results.toList pc s) (fun l => ∀ st, StR F ρ U s st → pcH F ρ U pc → RetR F ρ U P fn.results.toList keep l (keepH keep s.heap) st) := fun pc s =>
            (resS_spec hB fn.results.toList pc s).mono fun l hl st hs hp => ⟨hs.ok, hl st hs hp, by rw [show st.heap = hpc F ρ U s.heap from hs.hp]; exact KeepR.of⟩
          refine Spec.gd fun hn => ?_
          rw [startC_eq]
          refine Spec.bnd (execS_spec hB hE retR_ok hres cf c pc _) fun o => (finO_spec hB retR_ok hres).mono fun r h1 h2 hp => ?_
          obtain ⟨e, st, q1, q2⟩ := h2 _ (start_spec hB (Nat.le_of_ble_eq_true hn)) hp
          obtain ⟨k1, l, k2, k3⟩ := h1 e st hp q1
          refine ⟨st.heap, ?_, k3.hp⟩
          unfold funD
          simp only [h0, hu, cond_true, hf, hc, q2]
          have fin : finK P fn e st = some (oneOr (cvl F ρ U l), st.heap, true) := by
            cases e with
            | normal => unfold finK; simp only [k3.res, k3.ok]; rfl
            | exit id => exact absurd rfl (k1 id)
            | ret => unfold finK; simp only [k3.res, k3.ok]; rfl
          rw [fin, k2, oneOr_spec]
        · exact Spec.non
      · exact Spec.non

/-! ### math's functions -/
theorem f32bitsS_ok (hB : Base F ρ U) : SymOk F ρ U f32bitsO f32bitsS := fun pc args => by
  unfold f32bitsS
  split
  · rename_i x
    split
    · rename_i hx
      refine Spec.bnd (asF_spec (ρ := ρ) (U := U) hx) fun i => Spec.bnd (isNS_spec (ρ := ρ) (U := U)) fun a => Spec.bnd (atomNot_spec hB) fun q => Spec.bnd (needS_spec hB) fun _ => Spec.bnd (mk3_spec (ρ := ρ) (U := U)) fun r => Spec.ret fun h0 h1 h2 h3 h4 hp => ?_
      have h5 := h1 hp
      rw [h2, h3] at h5
      have h6 : isN .f32 (raw F ρ U i).nat = false := by simpa using h5
      obtain ⟨p, hq⟩ := h0
      show f32bitsO [cv F ρ U x] = _
      rw [h4, cv_n, hq, op61]
      show some (Value.int .u32 ((raw F ρ U i).nat : Nat), !isN .f32 (raw F ρ U i).nat) = _
      rw [h6]
      rfl
    · exact Spec.non
  · exact Spec.non
theorem sqrtS_ok : SymOk F ρ U sqrtO sqrtS := fun pc args => by
  unfold sqrtS
  split
  · rename_i x
    split
    · rename_i hx
      refine Spec.bnd (asF_spec (ρ := ρ) (U := U) hx) fun i => Spec.bnd (mk3_spec (ρ := ρ) (U := U)) fun r => Spec.ret fun h1 h2 _ => ?_
      obtain ⟨p, hq⟩ := h1
      show sqrtO [cv F ρ U x] = _
      rw [h2, cv_f, hq, op55]
      rfl
    · exact Spec.non
  · exact Spec.non
/-- a contract: the bits of a canonical number -/
def bitsO32 : Sig
  | [.float .f32 a] => some (.int .u32 a, true)
  | _ => none
theorem bitsSy_ok : SymOk F ρ U bitsO32 bitsSy := fun pc args => by
  unfold bitsSy
  split
  · rename_i x
    split
    · rename_i hx
      refine Spec.bnd (asF_spec (ρ := ρ) (U := U) hx) fun i => Spec.bnd (mk3_spec (ρ := ρ) (U := U)) fun r => Spec.ret fun h1 h2 _ => ?_
      obtain ⟨p, hq⟩ := h1
      show bitsO32 [cv F ρ U x] = _
      rw [h2, cv_n, hq, op61]
      rfl
    · exact Spec.non
  · exact Spec.non
/-- a contract: the same bits? -/
def sameO32 : Sig
  | [.float .f32 a, .float .f32 b] => some (.bool (decide (((a : Nat) : Int) = ((b : Nat) : Int))), true)
  | _ => none
theorem sameSy_ok (hB : Base F ρ U) : SymOk F ρ U sameO32 sameSy := fun pc args => by
  unfold sameSy
  split
  · rename_i x y
    split
    · rename_i hx hy
      refine Spec.bnd (asF_spec (ρ := ρ) (U := U) hx) fun i => Spec.bnd (asF_spec (ρ := ρ) (U := U) hy) fun j => Spec.bnd (mk3_spec (ρ := ρ) (U := U)) fun p => Spec.bnd (mk3_spec (ρ := ρ) (U := U)) fun q => (eqI_spec hB).mono fun r h1 h2 h3 h4 h5 _ => ?_
      obtain ⟨_, hp⟩ := h3
      obtain ⟨_, hq⟩ := h2
      show sameO32 [cv F ρ U x, cv F ρ U y] = _
      rw [h5, h4, h1, hp, hq, op61, op61]
      rfl
    · exact Spec.non
  · exact Spec.non
/-- a contract: is it finite? -/
def finO32 : Sig
  | [.float .f32 a] => some (.bool (finB a), true)
  | _ => none
theorem finSy_ok (hB : Base F ρ U) : SymOk F ρ U finO32 finSy := fun pc args => by
  unfold finSy
  split
  · rename_i x
    split
    · rename_i hx
      refine Spec.bnd (asF_spec (ρ := ρ) (U := U) hx) fun i => Spec.bnd (finP_spec hB 6 pc i) fun r => Spec.ret fun h1 h2 hp => ?_
      show finO32 [cv F ρ U x] = _
      rw [h2, cv_b, h1 hp]
      rfl
    · exact Spec.non
  · exact Spec.non
/-- a contract: one and the same number -/
def sameO64 : Sig
  | [.float .f64 x, .float .f64 y] => some (.bool true, Nat.beq x y)
  | _ => none
theorem eqSel_spec (hB : Base F ρ U) : ∀ (n i j : Nat), Spec F (eqSel n i j) (fun d => tv F ρ U d = true → raw F ρ U i = raw F ρ U j)
  | 0, i, j => by
    unfold eqSel
    refine Spec.ret fun h => ?_
    cases hb : Nat.beq i j with
    | true => rw [beqT hb]
    | false => rw [hb, cond_false, hB.t0] at h; cases h
  | n + 1, i, j => by
    unfold eqSel
    refine Spec.bif (fun hb => Spec.ret fun _ => by rw [beqT hb]) fun _ => ?_
    intro t r t' e hF
    dsimp only at e
    cases h1 : Nat.beq (opAt t i) 4 with
    | true =>
      rw [h1, cond_true, force_eq] at e
      have key : Spec F (bnd (eqSel n (bOf (nodeAt t i)) j) fun a => bnd (eqSel n (cOf (nodeAt t i)) j) fun b => ite (aOf (nodeAt t i)) a b)
          (fun r => tv F ρ U r = true → (tv F ρ U (aOf (nodeAt t i)) = true → raw F ρ U (bOf (nodeAt t i)) = raw F ρ U j) ∧ (tv F ρ U (aOf (nodeAt t i)) = false → raw F ρ U (cOf (nodeAt t i)) = raw F ρ U j)) :=
        Spec.bnd (eqSel_spec hB n _ _) fun a => Spec.bnd (eqSel_spec hB n _ _) fun b => (ite_spec hB).mono fun r h3 h2 h1 hd => by
          unfold tv at hd
          rw [h3] at hd
          constructor
          · intro hc
            unfold tv at hc
            rw [if_pos hc] at hd
            exact h1 hd
          · intro hc
            unfold tv at hc
            rw [if_neg (by rw [hc]; decide)] at hd
            exact h2 hd
      refine Spec.via key e hF fun hF' hq hd => ?_
      obtain ⟨a1, a2⟩ := hq hd
      rw [sel_raw hF' h1]
      cases hc : tv F ρ U (aOf (nodeAt t i)) with
      | true => exact a1 hc
      | false => exact a2 hc
    | false =>
      rw [h1, cond_false] at e
      cases h2 : Nat.beq (opAt t j) 4 with
      | true =>
        rw [h2, cond_true, force_eq] at e
        have key : Spec F (bnd (eqSel n i (bOf (nodeAt t j))) fun a => bnd (eqSel n i (cOf (nodeAt t j))) fun b => ite (aOf (nodeAt t j)) a b)
            (fun r => tv F ρ U r = true → (tv F ρ U (aOf (nodeAt t j)) = true → raw F ρ U i = raw F ρ U (bOf (nodeAt t j))) ∧ (tv F ρ U (aOf (nodeAt t j)) = false → raw F ρ U i = raw F ρ U (cOf (nodeAt t j)))) :=
          Spec.bnd (eqSel_spec hB n _ _) fun a => Spec.bnd (eqSel_spec hB n _ _) fun b => (ite_spec hB).mono fun r h3 h2 h1 hd => by
            unfold tv at hd
            rw [h3] at hd
            constructor
            · intro hc
              unfold tv at hc
              rw [if_pos hc] at hd
              exact h1 hd
            · intro hc
              unfold tv at hc
              rw [if_neg (by rw [hc]; decide)] at hd
              exact h2 hd
        refine Spec.via key e hF fun hF' hq hd => ?_
        obtain ⟨a1, a2⟩ := hq hd
        rw [sel_raw hF' h2]
        cases hc : tv F ρ U (aOf (nodeAt t j)) with
        | true => exact a1 hc
        | false => exact a2 hc
      | false =>
        rw [h2, cond_false] at e
        cases h3 : (Nat.beq (opAt t i) 53 && Nat.beq (opAt t j) 53) with
        | true =>
          rw [h3, cond_true] at e
          rw [Bool.and_eq_true] at h3
          refine Spec.via (eqSel_spec hB n _ _) e hF fun hF' hq hd => ?_
          have := hq hd
          rw [un_raw hF' (show isOp t 53 i = true from h3.1) (by decide), un_raw hF' (show isOp t 53 j = true from h3.2) (by decide), op53, op53]
          show Vl.i (fcv .f32 .f64 (raw F ρ U (aOf (nodeAt t i))).nat : Nat) = Vl.i (fcv .f32 .f64 (raw F ρ U (aOf (nodeAt t j))).nat : Nat)
          rw [this]
        | false =>
          rw [h3, cond_false] at e
          cases e
          exact ⟨hF, fun c => ⟨c, fun hd => by rw [hB.t0] at hd; cases hd⟩⟩
theorem needEq_spec (hB : Base F ρ U) {pc : PC} {i j : Nat} : Spec F (needEq pc i j) (fun _ => pcH F ρ U pc → raw F ρ U i = raw F ρ U j) := by
  unfold needEq
  exact Spec.bif (fun hb => Spec.ret fun _ => by rw [beqT hb]) fun _ => Spec.bnd (eqSel_spec hB 12 i j) fun d => (needS_spec hB).mono fun _ h2 h1 hp => h1 (h2 hp)
theorem sameFSy_ok (hB : Base F ρ U) : SymOk F ρ U sameO64 sameFSy := fun pc args => by
  unfold sameFSy
  split
  · rename_i x y
    split
    · rename_i hx hy
      refine Spec.bnd (asF_spec (ρ := ρ) (U := U) hx) fun i => Spec.bnd (asF_spec (ρ := ρ) (U := U) hy) fun j => Spec.bnd (needEq_spec hB) fun _ => Spec.ret fun h0 h1 h2 hp => ?_
      show sameO64 [cv F ρ U x, cv F ρ U y] = _
      rw [h2, h1, ← h0 hp, cv_lit]
      show some (Value.bool true, Nat.beq _ _) = _
      rw [Nat.beq_refl]
    · exact Spec.non
  · exact Spec.non

/-! ### parameters -/
def tyVal : Ty → Int → Value
  | .f k, z => .float k z.toNat
  | .n k, z => .int k z
  | .b, z => .bool (z == 1)
theorem varS_spec (hB : Base F ρ U) (y : Ty) (j : Nat) : Spec F (varS y j) (fun v => cv F ρ U v = tyVal y (ρ j)) := by
  cases y with
  | f k =>
    unfold varS
    refine Spec.bnd (mkP_spec (ρ := ρ) (U := U) (by decide)) fun i => Spec.ret fun h => ?_
    rw [cv_f, h, op2]; rfl
  | n k =>
    unfold varS
    refine Spec.bnd (mkP_spec (ρ := ρ) (U := U) (by decide)) fun i => Spec.ret fun h => ?_
    rw [cv_n, h, op2]; rfl
  | b =>
    unfold varS
    refine Spec.bnd (mkP_spec (ρ := ρ) (U := U) (by decide)) fun i => Spec.bnd (mk3_spec (ρ := ρ) (U := U)) fun a => Spec.bnd (atomS_spec hB) fun r => Spec.ret fun h1 h2 h3 => ?_
    obtain ⟨p, hq⟩ := h2
    have h4 : tv F ρ U a = (ρ j == 1) := by
      show (raw F ρ U a).tr = _
      rw [hq, op60, Vl.tr_bif, h3, op2]; rfl
    rw [cv_b, h1, h4]; rfl
def tysVal (ρ : Nat → Int) : List Ty → Nat → List Value
  | [], _ => []
  | y :: r, j => tyVal y (ρ j) :: tysVal ρ r (j + 1)
theorem varsS_spec (hB : Base F ρ U) : ∀ (l : List Ty) (j : Nat), Spec F (varsS l j) (fun m => cvl F ρ U m = tysVal ρ l j)
  | [], _ => Spec.ret rfl
  | y :: r, j => by
    unfold varsS
    refine Spec.bnd (varS_spec hB y j) fun v => Spec.bnd (varsS_spec hB r (j + 1)) fun l => Spec.ret fun h1 h2 => ?_
    rw [cvl_cons, h1, h2]; rfl
def parVal (ρ : Nat → Int) : Par → Nat → Value
  | .agg l, j => .agg (tysVal ρ l j).toArray
  | .one y, j => tyVal y (ρ j)
def parLen : Par → Nat
  | .agg l => l.length
  | .one _ => 1
theorem parS_spec (hB : Base F ρ U) (p : Par) (j : Nat) : Spec F (parS p j) (fun q => cv F ρ U q.1 = parVal ρ p j ∧ q.2 = j + parLen p) := by
  cases p with
  | agg l => unfold parS; exact Spec.bnd (varsS_spec hB l j) fun m => Spec.ret fun h => ⟨by rw [cv_agg, h]; rfl, rfl⟩
  | one y => unfold parS; exact Spec.bnd (varS_spec hB y j) fun v => Spec.ret fun h => ⟨h, rfl⟩
def parsVal (ρ : Nat → Int) : List Par → Nat → List Value
  | [], _ => []
  | p :: r, j => parVal ρ p j :: parsVal ρ r (j + parLen p)
theorem parsS_spec (hB : Base F ρ U) : ∀ (ps : List Par) (j : Nat), Spec F (parsS ps j) (fun l => cvl F ρ U l = parsVal ρ ps j)
  | [], _ => Spec.ret rfl
  | p :: r, j => by
    unfold parsS
    refine Spec.bnd (parS_spec hB p j) fun q => Spec.bnd (parsS_spec hB r q.2) fun l => Spec.ret fun h1 h2 => ?_
    rw [cvl_cons, h2.1, h1, h2.2]; rfl
end

/-! ### a law -/
def wfB (t : Tab) : Nat → Bool
  | 0 => true
  | i + 1 => force (nodeAt t i) (fun x => Nat.blt (opOf x) 3 || (Nat.blt (aOf x) i && (Nat.blt (bOf x) i && Nat.blt (cOf x) i))) && wfB t i
theorem wfB_spec {t : Tab} : ∀ {n : Nat}, wfB t n = true → ∀ i, i < n → wfNode i (nodeAt t i)
  | 0, _, _, h => absurd h (Nat.not_lt_zero _)
  | n + 1, h, i, hi => by
    rw [wfB, force_eq, Bool.and_eq_true] at h
    by_cases e : i = n
    · subst e
      have h1 := h.1
      rw [Bool.or_eq_true, Bool.and_eq_true, Bool.and_eq_true] at h1
      rcases h1 with h1 | ⟨h1, h2, h3⟩
      · exact .inl (bltT h1)
      · exact .inr ⟨bltT h1, bltT h2, bltT h3⟩
    · exact wfB_spec h.2 i (by omega)
theorem le_self {t : Tab} (h : wfB t t.n = true) : Le t t := ⟨Nat.le_refl _, fun i hi => ⟨rfl, wfB_spec h i hi⟩⟩
def okLaw : Option (SV × Tab) → Bool
  | some (v, t) => isTrueS v && (wfB t t.n && (Nat.blt 1 t.n && (Nat.beq (nodeAt t 0) 0 && Nat.beq (nodeAt t 1) 256)))
  | none => false
def lawB (P : Program) (ext orc : List (Nat × SymF)) (us : List FuncId) (cf d : Nat) (f : FuncId) (ps : List Par) : Bool := okLaw (lawM P ext orc us cf d f ps tab0)
theorem isTrueS_spec {F : Tab} {ρ : Nat → Int} {U : Nat → Vl → Vl} (hB : Base F ρ U) {v : SV} (h : isTrueS v = true) : cv F ρ U v = .bool true := by
  unfold isTrueS at h
  split at h
  · rw [cv_b, beqT h, hB.t1]
  · rw [cv_lit, h]
  · cases h
/-- the law is true where the symbolic run says so -/
theorem law_run {P : Program} {ext orc : List (Nat × SymF)} {exte orce : Orc} {us : List FuncId} {cf d : Nat} {f : FuncId} {ps : List Par} (U : Nat → Vl → Vl) (ρ : Nat → Int)
    (hx : ∀ F, Base F ρ U → ListR F ρ U ext exte) (ho : ∀ F, Base F ρ U → ListR F ρ U orc orce) (h : lawB P ext orc us cf d f ps = true) :
    ∃ h', funD P exte orce us cf d f (parsVal ρ ps 0) [] = some (.bool true, h', true) := by
  unfold lawB at h
  cases hm : lawM P ext orc us cf d f ps tab0 with
  | none => rw [hm] at h; cases h
  | some r =>
    obtain ⟨v, F⟩ := r
    rw [hm] at h
    have h : (isTrueS v && (wfB F F.n && (Nat.blt 1 F.n && (Nat.beq (nodeAt F 0) 0 && Nat.beq (nodeAt F 1) 256)))) = true := h
    simp only [Bool.and_eq_true] at h
    obtain ⟨hv, hw, hn, b0, b1⟩ := h
    have hF := le_self hw
    have hn := bltT hn
    have hB : Base F ρ U := by
      refine ⟨?_, ?_⟩
      · rw [raw_at hF (i := 0) (by omega), beqT b0]; rfl
      · rw [raw_at hF (i := 1) hn, beqT b1]; rfl
    have key : Spec F (lawM P ext orc us cf d f ps) (fun v => ∃ h', funD P exte orce us cf d f (parsVal ρ ps 0) [] = some (cv F ρ U v, h', true)) := by
      unfold lawM
      refine Spec.bnd (parsS_spec hB ps 0) fun args => Spec.bnd (funS_spec hB FrnR.no (hx F hB) (ho F hB) d .no [] f args []) fun r => Spec.ret fun h1 h2 => ?_
      obtain ⟨h', e, _⟩ := h1 (fun _ hh => by cases hh)
      rw [h2] at e
      exact ⟨h', e⟩
    obtain ⟨_, kc⟩ := key tab0 v F hm hF
    obtain ⟨_, h', e⟩ := kc cok0
    rw [isTrueS_spec hB hv] at e
    exact ⟨h', e⟩
end Sx
end
noncomputable section
namespace Sx
open Go Ev Go.RowKit

/-! ### arguments that come in -/
def fitV : Ty → Value → Bool
  | .f k, .float k' _ => sameK k k'
  | .n k, .int k' _ => sameI k k'
  | .b, .bool _ => true
  | _, _ => false
def fitL : List Ty → List Value → Bool
  | [], [] => true
  | y :: r, v :: s => fitV y v && fitL r s
  | _, _ => false
def fitP : Par → Value → Bool
  | .agg l, .agg cs => fitL l cs.toList
  | .one y, v => fitV y v
  | _, _ => false
def fitA : List Par → List Value → Bool
  | [], [] => true
  | p :: r, v :: s => fitP p v && fitA r s
  | _, _ => false
def canonV : Value → Value
  | .float k b => .float k (cn k b)
  | v => v
def canonP : Value → Value
  | .agg cs => .agg (cs.toList.map canonV).toArray
  | v => canonV v
def intV : Value → Int
  | .float k b => (cn k b : Nat)
  | .int _ z => z
  | .bool b => bif b then 1 else 0
  | _ => 0
def intsP : Value → List Int
  | .agg cs => cs.toList.map intV
  | v => [intV v]
theorem fitV_val {y : Ty} {v : Value} (h : fitV y v = true) : tyVal y (intV v) = canonV v ∧ flatB (canonV v) = true ∧ VR Mu.nil (canonV v) v ∧ intsP v = [intV v] ∧ canonP v = canonV v ∧ plainB (canonV v) = true := by
  unfold fitV at h
  split at h
  · rename_i k k' b
    have := sameK_eq h
    subst this
    exact ⟨rfl, rfl, .float _ _ _ rfl, rfl, rfl, rfl⟩
  · rename_i k k' z
    have := sameI_eq h
    subst this
    exact ⟨rfl, rfl, .int _ _, rfl, rfl, rfl⟩
  · rename_i b
    refine ⟨?_, rfl, .bool _, rfl, rfl, rfl⟩
    cases b <;> rfl
  · cases h
theorem fitL_val {ρ : Nat → Int} : ∀ {l : List Ty} {cs : List Value} {j : Nat}, fitL l cs = true → (∀ i z, (cs.map intV)[i]? = some z → ρ (j + i) = z) → tysVal ρ l j = cs.map canonV ∧ l.length = cs.length
  | [], [], _, _, _ => ⟨rfl, rfl⟩
  | y :: r, v :: s, j, h, hr => by
    rw [fitL, Bool.and_eq_true] at h
    obtain ⟨h1, h2⟩ := fitL_val (j := j + 1) h.2 fun i z hz => by
      have := hr (i + 1) z hz
      rw [← this]
      exact congrArg ρ (by omega)
    have h0 : ρ j = intV v := hr 0 _ rfl
    refine ⟨?_, congrArg (· + 1) h2⟩
    rw [tysVal, h1, h0, (fitV_val h.1).1]; rfl
  | [], _ :: _, _, h, _ => by cases h
  | _ :: _, [], _, h, _ => by cases h
theorem fitL_flat : ∀ {l : List Ty} {cs : List Value}, fitL l cs = true → (cs.map canonV).all flatB = true ∧ VRL Mu.nil (cs.map canonV) cs
  | [], [], _ => ⟨rfl, VRL.nil⟩
  | y :: r, v :: s, h => by
    rw [fitL, Bool.and_eq_true] at h
    obtain ⟨h1, h2⟩ := fitL_flat h.2
    obtain ⟨_, a, b, _⟩ := fitV_val h.1
    exact ⟨by rw [List.map_cons, List.all_cons, a, h1]; rfl, VRL.cons b h2⟩
  | [], _ :: _, h => by cases h
  | _ :: _, [], h => by cases h
theorem fitP_val {ρ : Nat → Int} {p : Par} {v : Value} {j : Nat} (h : fitP p v = true) (hr : ∀ i z, (intsP v)[i]? = some z → ρ (j + i) = z) : parVal ρ p j = canonP v ∧ parLen p = (intsP v).length := by
  unfold fitP at h
  split at h
  · rename_i l cs
    obtain ⟨h1, h2⟩ := fitL_val h hr
    refine ⟨?_, h2.trans (List.length_map ..).symm⟩
    show Value.agg (tysVal ρ l j).toArray = _
    rw [h1]; rfl
  · obtain ⟨a, _, _, b, c, _⟩ := fitV_val h
    rw [b] at hr ⊢
    refine ⟨?_, rfl⟩
    rw [c, ← a]
    show tyVal _ (ρ j) = _
    rw [show ρ j = intV _ from hr 0 _ rfl]
  · cases h
theorem fitP_plain {p : Par} {v : Value} (h : fitP p v = true) : plainB (canonP v) = true ∧ VR Mu.nil (canonP v) v := by
  unfold fitP at h
  split at h
  · rename_i l cs
    obtain ⟨h1, h2⟩ := fitL_flat h
    refine ⟨h1, ?_⟩
    have := VR.of_agg h2
    simpa [canonP] using this
  · obtain ⟨_, _, a, _, b, c⟩ := fitV_val h
    rw [b]
    exact ⟨c, a⟩
  · cases h
theorem fitA_val {ρ : Nat → Int} : ∀ {ps : List Par} {vs : List Value} {j : Nat}, fitA ps vs = true → (∀ i z, (vs.flatMap intsP)[i]? = some z → ρ (j + i) = z) → parsVal ρ ps j = vs.map canonP
  | [], [], _, _, _ => rfl
  | p :: r, v :: s, j, h, hr => by
    rw [fitA, Bool.and_eq_true] at h
    rw [List.flatMap_cons] at hr
    obtain ⟨h1, h2⟩ := fitP_val (ρ := ρ) (j := j) h.1 fun i z hz => hr i z (by
      obtain ⟨hl, _⟩ := List.getElem?_eq_some_iff.1 hz
      rw [List.getElem?_append_left hl]; exact hz)
    have h3 := fitA_val (ρ := ρ) (j := j + parLen p) h.2 fun i z hz => by
      have := hr ((intsP v).length + i) z (by
        rw [List.getElem?_append_right (Nat.le_add_right ..), Nat.add_sub_cancel_left]; exact hz)
      rw [← this, h2]
      exact congrArg ρ (by omega)
    rw [parsVal, h1, h3]; rfl
  | [], _ :: _, _, h, _ => by cases h
  | _ :: _, [], _, h, _ => by cases h
theorem fitA_plain : ∀ {ps : List Par} {vs : List Value}, fitA ps vs = true → (vs.map canonP).all plainB = true ∧ VRL Mu.nil (vs.map canonP) vs
  | [], [], _ => ⟨rfl, VRL.nil⟩
  | p :: r, v :: s, h => by
    rw [fitA, Bool.and_eq_true] at h
    obtain ⟨h1, h2⟩ := fitA_plain h.2
    obtain ⟨a, b⟩ := fitP_plain h.1
    exact ⟨by rw [List.map_cons, List.all_cons, a, h1]; rfl, VRL.cons b h2⟩
  | [], _ :: _, h => by cases h
  | _ :: _, [], h => by cases h
/-- the values of the variables -/
def rhoOf (vs : List Value) (j : Nat) : Int := (vs.flatMap intsP).getD j 0
theorem rho_fit {ps : List Par} {vs : List Value} (h : fitA ps vs = true) : parsVal (rhoOf vs) ps 0 = vs.map canonP :=
  fitA_val h fun i z hz => by
    unfold rhoOf
    rw [Nat.zero_add, List.getD_eq_getElem?_getD, hz]; rfl
/-- a law that the symbolic run finds true: every call answers true -/
theorem sx_walk {P : Program} {ext orc : List (Nat × SymF)} {exte orce : List (Nat × Sig)} {us : List FuncId} {cf d : Nat} {f : FuncId} {ps : List Par} (U : Nat → Vl → Vl)
    (hm : P.follows .mixedOrders = true) (hus : us.all (funcOk P) = true) (hexte : ∀ p ∈ exte, ExtOne P p.1 p.2) (horce : ∀ p ∈ orce, OrcOne P p.1 p.2)
    (hx : ∀ F ρ, Base F ρ U → ListR F ρ U ext (fun f => seek f exte)) (ho : ∀ F ρ, Base F ρ U → ListR F ρ U orc (fun f => seek f orce)) (h : lawB P ext orc us cf d f ps = true)
    {vs : List Value} (hv : fitA ps vs = true) (w : World) : Calls P f vs.toArray w fun e w' => e = .returned (.bool true) ∧ Below w.heap.size w w' := by
  obtain ⟨h1, h2⟩ := fitA_plain hv
  have he := law_run U (rhoOf vs) (fun F hB => hx F _ hB) (fun F hB => ho F _ hB) h
  rw [rho_fit hv] at he
  exact fun_law hm hus (ext_list hexte) (orc_list horce) noCon he h1 h2 w (noIn w)

/-! ### the types of what comes in -/
def tyOf (P : Program) (t : TypeId) : Option Ty :=
  match P.underlying t with
  | some (.float k) => some (.f k)
  | some (.int k) => some (.n k)
  | some .bool => some .b
  | _ => none
def tyEq : Option Ty → Ty → Bool
  | some (.f k), .f k' => sameK k k'
  | some (.n k), .n k' => sameI k k'
  | some .b, .b => true
  | _, _ => false
def tysEq (P : Program) : List TypeId → List Ty → Bool
  | [], [] => true
  | t :: r, y :: s => tyEq (tyOf P t) y && tysEq P r s
  | _, _ => false
def aggT : Option TypeDesc → Bool
  | some (.struct _) | some (.array _ _) => true
  | _ => false
def openB (P : Program) (t : TypeId) : Par → Bool
  | .agg l => aggT (P.underlying t) && (match P.cellTypes P.depth t with
    | some ts => tysEq P ts l && Nat.beq (P.cellsOf t) ts.length
    | none => false)
  | .one y => tyEq (tyOf P t) y
theorem tyEq_ok {P : Program} {w : World} {r : Reach} {b0 : Nat} {t : TypeId} {y : Ty} {v : Value} (h : tyEq (tyOf P t) y = true) (hv : Cell.okWide P w r b0 t v) : fitV y v = true := by
  unfold tyOf at h
  split at h
  · rename_i k hu
    unfold tyEq at h
    split at h
    · rename_i k1 k2 e
      cases e
      have := sameK_eq h
      subst this
      simp only [Cell.okWide, hu] at hv
      cases v <;> simp only [Cell.ok, hu] at hv
      obtain ⟨rfl, _⟩ := hv
      exact sameK_self _
    · rename_i e; cases e
    · rename_i e; cases e
    · cases h
  · rename_i k hu
    unfold tyEq at h
    split at h
    · rename_i e; cases e
    · rename_i k1 k2 e
      cases e
      have := sameI_eq h
      subst this
      simp only [Cell.okWide, hu] at hv
      cases v <;> simp only [Cell.ok, hu] at hv
      obtain ⟨rfl, _⟩ := hv
      exact h
    · rename_i e; cases e
    · cases h
  · rename_i hu
    unfold tyEq at h
    split at h
    · rename_i e; cases e
    · rename_i e; cases e
    · simp only [Cell.okWide, hu] at hv
      cases v <;> simp only [Cell.ok, hu] at hv
      rfl
    · cases h
  · cases h
theorem tysEq_ok {P : Program} {w : World} {r : Reach} {b0 : Nat} : ∀ {ts : List TypeId} {l : List Ty} {cs : List Value}, tysEq P ts l = true → cs.length = ts.length → (∀ (i : Nat) (v : Value), cs[i]? = some v → ∃ u : TypeId, ts[i]? = some u ∧ Cell.okWide P w r b0 u v) → fitL l cs = true
  | [], [], [], _, _, _ => rfl
  | t :: r, y :: s, v :: cs, h, hl, hc => by
    rw [tysEq, Bool.and_eq_true] at h
    obtain ⟨u, hu, hok⟩ := hc 0 v rfl
    cases hu
    rw [fitL, tyEq_ok h.1 hok, Bool.true_and]
    exact tysEq_ok h.2 (by simpa using hl) fun i v hv => hc (i + 1) v hv
  | [], [], _ :: _, _, hl, _ => by cases hl
  | _ :: _, _ :: _, [], _, hl, _ => by cases hl
  | [], _ :: _, _, h, _, _ => by cases h
  | _ :: _, [], _, h, _, _ => by cases h
theorem openB_ok {P : Program} {w : World} {r : Reach} {b0 : Nat} {t : TypeId} {p : Par} {v : Value} (h : openB P t p = true) (hv : Value.okWide P w r b0 t v) : fitP p v = true := by
  cases p with
  | agg l =>
    unfold openB at h
    rw [Bool.and_eq_true] at h
    obtain ⟨h1, h2⟩ := h
    split at h2
    · rename_i ts hts
      rw [Bool.and_eq_true] at h2
      have hag : ∃ cs, v = .agg cs ∧ cs.size = P.cellsOf t ∧ Row.okWide P w r b0 t cs := by
        unfold Value.okWide at hv
        split at hv
        · exact hv
        · exact hv
        · rename_i q1 q2
          unfold aggT at h1
          split at h1
          · rename_i e; exact absurd e (q1 _)
          · rename_i e; exact absurd e (q2 _ _)
          · cases h1
      obtain ⟨cs, rfl, hs, ts', e1, e2, e3⟩ := hag
      rw [hts] at e1
      cases e1
      have hl : cs.toList.length = ts.length := by
        rw [Array.length_toList, hs, beqT h2.2]
      refine tysEq_ok (w := w) (r := r) (b0 := b0) h2.1 hl fun i u hu => ?_
      have hi : i < ts.length := by
        rw [← hl]
        exact (List.getElem?_eq_some_iff.1 hu).1
      obtain ⟨x, hx, hok⟩ := e3 i u (by simpa using hu)
      rw [Nat.mod_eq_of_lt hi] at hx
      exact ⟨x, hx, hok⟩
    · cases h2
  | one y =>
    have hc : Cell.okWide P w r b0 t v := by
      unfold Value.okWide at hv
      split at hv
      · rename_i fs hu
        exfalso
        have h : tyEq (tyOf P t) y = true := h
        unfold tyOf at h
        rw [hu] at h
        cases h
      · rename_i n e hu
        exfalso
        have h : tyEq (tyOf P t) y = true := h
        unfold tyOf at h
        rw [hu] at h
        cases h
      · exact hv
    have := tyEq_ok (P := P) (t := t) (y := y) h hc
    cases v <;> exact this
end Sx
end
noncomputable section
namespace Sx
open Go Ev Go.RowKit

/-! ### functions that are told by a name alone -/
def nodeOf (y : Ty) (x : SV) : M Nat :=
  match y with
  | .f k => match isF x with
    | some k' => gd (sameK k k') (asF x)
    | none => non
  | .n k => match isI x with
    | some k' => gd (sameI k k') (asI x)
    | none => non
  | .b => opt (asB x)
def chainS : List Ty → List SV → M Nat
  | [], [] => ret 0
  | y :: r, x :: s => bnd (nodeOf y x) fun i => bnd (chainS r s) fun j => mk3 5 i j 0
  | _, _ => non
def flatPs : List Par → List SV → Option (List SV)
  | [], [] => some []
  | .agg l :: r, .agg cs :: s => bif Nat.beq cs.length l.length then (match flatPs r s with | some m => some (cs ++ m) | none => none) else none
  | .one _ :: r, x :: s => match flatPs r s with
    | some m => some (x :: m)
    | none => none
  | _, _ => none
def tysPs : List Par → List Ty
  | [] => []
  | .agg l :: r => l ++ tysPs r
  | .one y :: r => y :: tysPs r
def resS1 (y : Ty) (r : Nat) : M SV :=
  match y with
  | .f k => ret (.f k r)
  | .n k => ret (.n k r)
  | .b => bnd (atomS r) fun q => ret (.b q)
def uS (op : Nat) (ps : List Par) (y : Ty) : SymF := fun _ args =>
  bnd (opt (flatPs ps args)) fun cs => bnd (chainS (tysPs ps) cs) fun i => bnd (mk3 op i 0 0) fun r => resS1 y r

def unch : List Ty → Vl → List Value
  | [], _ => []
  | y :: r, v => match v with
    | .p a b => (match y with | .f k => .float k a.nat | .n k => .int k a.z | .b => .bool a.tr) :: unch r b
    | .i _ => []
/-- the arguments again -/
def packPs : List Par → List Value → List Value
  | [], _ => []
  | .agg l :: r, vs => .agg (vs.take l.length).toArray :: packPs r (vs.drop l.length)
  | .one _ :: r, v :: vs => v :: packPs r vs
  | .one _ :: _, [] => []
/-- a value of a type, as a node's -/
def toVl (y : Ty) (v : Value) : Vl :=
  match y, v with
  | .f _, .float _ b => .i (b : Nat)
  | .n _, .int _ z => .i z
  | .b, .bool b => .i (bif b then 1 else 0)
  | _, _ => .i 0
def ofVl (y : Ty) (v : Vl) : Value :=
  match y with
  | .f k => .float k v.nat
  | .n k => .int k v.z
  | .b => .bool v.tr
/-- the contract: 'G' of the arguments -/
def sigU (ps : List Par) (y : Ty) (G : List Value → Value) : Sig := fun args => bif fitA ps args then some (ofVl y (toVl y (G args)), true) else none

section
variable {F : Tab} {ρ : Nat → Int} {U : Nat → Vl → Vl}
theorem nodeOf_spec (hB : Base F ρ U) {y : Ty} {x : SV} : Spec F (nodeOf y x) (fun i => cv F ρ U x = ofVl y (raw F ρ U i) ∧ fitV y (cv F ρ U x) = true) := by
  unfold nodeOf
  cases y with
  | f k =>
    dsimp only
    split
    · rename_i k' hx
      refine Spec.gd fun hk => (asF_spec (ρ := ρ) (U := U) hx).mono fun i h => ?_
      rw [h, sameK_eq hk]
      exact ⟨rfl, sameK_self _⟩
    · exact Spec.non
  | n k =>
    dsimp only
    split
    · rename_i k' hx
      refine Spec.gd fun hk => (asI_spec (ρ := ρ) (U := U) hx).mono fun i h => ?_
      rw [h]
      refine ⟨?_, hk⟩
      rw [sameI_eq hk]; rfl
    · exact Spec.non
  | b =>
    refine (optB hB).mono fun i h => ?_
    rw [h]
    exact ⟨rfl, rfl⟩
theorem chainS_spec (hB : Base F ρ U) : ∀ (l : List Ty) (cs : List SV), Spec F (chainS l cs) (fun i => unch l (raw F ρ U i) = cvl F ρ U cs ∧ fitL l (cvl F ρ U cs) = true)
  | [], [] => Spec.ret ⟨rfl, rfl⟩
  | y :: r, x :: s => by
    unfold chainS
    refine Spec.bnd (nodeOf_spec hB) fun i => Spec.bnd (chainS_spec hB r s) fun j => (mk3_spec (ρ := ρ) (U := U)).mono fun q h1 h2 h3 => ?_
    obtain ⟨p, hp⟩ := h1
    rw [hp, op5, cvl_cons]
    refine ⟨?_, ?_⟩
    · show ofVl y (raw F ρ U i) :: unch r (raw F ρ U j) = _
      rw [h2.1, ← h3.1]
    · rw [fitL, h3.2, h2.2]; rfl
  | [], _ :: _ => Spec.non
  | _ :: _, [] => Spec.non
theorem flatPs_spec : ∀ {ps : List Par} {args : List SV} {cs : List SV}, flatPs ps args = some cs → fitL (tysPs ps) (cvl F ρ U cs) = true → packPs ps (cvl F ρ U cs) = cvl F ρ U args ∧ fitA ps (cvl F ρ U args) = true
  | [], [], cs, h, _ => by cases h; exact ⟨rfl, rfl⟩
  | .agg l :: r, .agg c :: s, cs, h, hf => by
    unfold flatPs at h
    cases hl : Nat.beq c.length l.length with
    | false => rw [hl] at h; cases h
    | true =>
      rw [hl, cond_true] at h
      cases hm : flatPs r s with
      | none => rw [hm] at h; cases h
      | some m =>
        rw [hm] at h
        cases h
        have hl := beqT hl
        have e : cvl F ρ U (c ++ m) = cvl F ρ U c ++ cvl F ρ U m := List.map_append
        rw [e] at hf ⊢
        have hlen : (cvl F ρ U c).length = l.length := (len_cvl c).trans hl
        have split : ∀ {l' : List Ty} {q : List Ty} {a b : List Value}, a.length = l'.length → fitL (l' ++ q) (a ++ b) = true → fitL l' a = true ∧ fitL q b = true := by
          intro l'
          induction l' with
          | nil => intro q a b ha h; cases a with
            | nil => exact ⟨rfl, h⟩
            | cons _ _ => cases ha
          | cons y l' ih => intro q a b ha h; cases a with
            | nil => cases ha
            | cons x a =>
              have h : (fitV y x && fitL (l' ++ q) (a ++ b)) = true := h
              rw [Bool.and_eq_true] at h
              obtain ⟨h1, h2⟩ := ih (Nat.succ.inj ha) h.2
              exact ⟨by rw [fitL, h.1, h1]; rfl, h2⟩
        obtain ⟨f1, f2⟩ := split hlen hf
        obtain ⟨g1, g2⟩ := flatPs_spec hm f2
        refine ⟨?_, ?_⟩
        · rw [packPs, List.take_left' hlen, List.drop_left' hlen, g1, cvl_cons, cv_agg]
        · rw [cvl_cons, cv_agg, fitA, g2, Bool.and_true]
          exact f1
  | .one y :: r, x :: s, cs, h, hf => by
    unfold flatPs at h
    cases hm : flatPs r s with
    | none => rw [hm] at h; cases h
    | some m =>
      rw [hm] at h
      cases h
      have hf : (fitV y (cv F ρ U x) && fitL (tysPs r) (cvl F ρ U m)) = true := hf
      rw [Bool.and_eq_true] at hf
      obtain ⟨g1, g2⟩ := flatPs_spec hm hf.2
      refine ⟨?_, ?_⟩
      · rw [cvl_cons, packPs, g1]; rfl
      · rw [cvl_cons, fitA, g2, Bool.and_true]
        exact hf.1
  | [], _ :: _, _, h, _ => by cases h
  | .agg _ :: _, [], _, h, _ => by cases h
  | .one _ :: _, [], _, h, _ => by cases h
  | .agg _ :: _, .lit _ :: _, _, h, _ => by cases h
  | .agg _ :: _, .b _ :: _, _, h, _ => by cases h
  | .agg _ :: _, .f _ _ :: _, _, h, _ => by cases h
  | .agg _ :: _, .n _ _ :: _, _, h, _ => by cases h
  | .agg _ :: _, .ptr _ _ :: _, _, h, _ => by cases h
  | .agg _ :: _, .slice _ _ _ _ :: _, _, h, _ => by cases h
  | .agg _ :: _, .func _ _ _ :: _, _, h, _ => by cases h
  | .agg _ :: _, .tuple _ :: _, _, h, _ => by cases h
theorem uS_ok (hB : Base F ρ U) {op : Nat} {ps : List Par} {y : Ty} {G : List Value → Value} (hop : ∀ (ρ : Nat → Int) (U : Nat → Vl → Vl) (g : Nat → Vl) (a b c p : Nat), opVal ρ U g op a b c p = U op (g a))
    (hU : ∀ z, U op z = toVl y (G (packPs ps (unch (tysPs ps) z)))) : SymOk F ρ U (sigU ps y G) (uS op ps y) := fun pc args => by
  unfold uS
  refine Spec.bnd Spec.opt fun cs => Spec.bnd (chainS_spec hB _ _) fun i => Spec.bnd (mk3_spec (ρ := ρ) (U := U)) fun r => ?_
  have key : ∀ v : SV, cv F ρ U v = ofVl y (raw F ρ U r) → (∃ p, raw F ρ U r = opVal ρ U (raw F ρ U) op i 0 0 p) → (unch (tysPs ps) (raw F ρ U i) = cvl F ρ U cs ∧ fitL (tysPs ps) (cvl F ρ U cs) = true) → flatPs ps args = some cs → sigU ps y G (cvl F ρ U args) = some (cv F ρ U v, true) := fun v hv ⟨p, hp⟩ ⟨h1, h2⟩ h3 => by
    obtain ⟨g1, g2⟩ := flatPs_spec h3 h2
    unfold sigU
    rw [g2, cond_true, hv, hp, hop, hU, h1, g1]
  unfold resS1
  cases y with
  | f k => exact Spec.ret fun h1 h2 h3 _ => key _ (cv_f _ _) h1 h2 h3
  | n k => exact Spec.ret fun h1 h2 h3 _ => key _ (cv_n _ _) h1 h2 h3
  | b =>
    refine Spec.bnd (atomS_spec hB) fun q => Spec.ret fun h0 h1 h2 h3 _ => key _ ?_ h1 h2 h3
    rw [cv_b, h0]; rfl
end

/-! ### two functions that answer the same -/
def isTy (y : Ty) : SV → Bool
  | .f k _ => (match y with | .f k' => sameK k' k | _ => false)
  | .n k _ => (match y with | .n k' => sameI k' k | _ => false)
  | .b _ => (match y with | .b => true | _ => false)
  | .lit v => fitV y v
  | _ => false
theorem isTy_spec {F : Tab} {ρ : Nat → Int} {U : Nat → Vl → Vl} {y : Ty} {v : SV} (h : isTy y v = true) : fitV y (cv F ρ U v) = true := by
  unfold isTy at h
  split at h
  · rw [cv_f]
    split at h
    · exact h
    · cases h
  · rw [cv_n]
    split at h
    · exact h
    · cases h
  · rw [cv_b]
    split at h
    · rfl
    · cases h
  · rw [cv_lit]; exact h
  · cases h
theorem fitV_of {y : Ty} {v : Value} (h : fitV y v = true) : ofVl y (toVl y v) = v := by
  unfold fitV at h
  split at h
  · rename_i k k' b
    rw [← sameK_eq h]; rfl
  · rename_i k k' z
    rw [← sameI_eq h]; rfl
  · rename_i b
    cases b <;> rfl
  · cases h
def pairM (P : Program) (ext orc : List (Nat × SymF)) (us : List FuncId) (cf d : Nat) (f g : FuncId) (ps : List Par) : M (SV × SV) :=
  bnd (parsS ps 0) fun args => bnd (funS P ext orc us cf d .no [] f args []) fun r => bnd (funS P ext orc us cf d .no [] g args []) fun q => ret (r.1, q.1)
def okPair (y : Ty) : Option ((SV × SV) × Tab) → Bool
  | some (v, t) => (eqSV 5 v.1 v.2 && isTy y v.1) && (wfB t t.n && (Nat.blt 1 t.n && (Nat.beq (nodeAt t 0) 0 && Nat.beq (nodeAt t 1) 256)))
  | none => false
def pairB (P : Program) (ext orc : List (Nat × SymF)) (us : List FuncId) (cf d : Nat) (f g : FuncId) (ps : List Par) (y : Ty) : Bool := okPair y (pairM P ext orc us cf d f g ps tab0)
theorem pair_run {P : Program} {ext orc : List (Nat × SymF)} {exte orce : Orc} {us : List FuncId} {cf d : Nat} {f g : FuncId} {ps : List Par} {y : Ty} (U : Nat → Vl → Vl) (ρ : Nat → Int)
    (hx : ∀ F, Base F ρ U → ListR F ρ U ext exte) (ho : ∀ F, Base F ρ U → ListR F ρ U orc orce) (h : pairB P ext orc us cf d f g ps y = true) :
    ∃ v h1 h2, funD P exte orce us cf d f (parsVal ρ ps 0) [] = some (v, h1, true) ∧ funD P exte orce us cf d g (parsVal ρ ps 0) [] = some (v, h2, true) ∧ fitV y v = true := by
  unfold pairB at h
  cases hm : pairM P ext orc us cf d f g ps tab0 with
  | none => rw [hm] at h; cases h
  | some r =>
    obtain ⟨⟨v1, v2⟩, F⟩ := r
    rw [hm] at h
    have h : ((eqSV 5 v1 v2 && isTy y v1) && (wfB F F.n && (Nat.blt 1 F.n && (Nat.beq (nodeAt F 0) 0 && Nat.beq (nodeAt F 1) 256)))) = true := h
    simp only [Bool.and_eq_true] at h
    obtain ⟨⟨hv, ht⟩, hw, hn, b0, b1⟩ := h
    have hF := le_self hw
    have hn := bltT hn
    have hB : Base F ρ U := by
      refine ⟨?_, ?_⟩
      · rw [raw_at hF (i := 0) (by omega), beqT b0]; rfl
      · rw [raw_at hF (i := 1) hn, beqT b1]; rfl
    have key : Spec F (pairM P ext orc us cf d f g ps) (fun v => (∃ h', funD P exte orce us cf d f (parsVal ρ ps 0) [] = some (cv F ρ U v.1, h', true)) ∧ ∃ h', funD P exte orce us cf d g (parsVal ρ ps 0) [] = some (cv F ρ U v.2, h', true)) := by
      unfold pairM
      refine Spec.bnd (parsS_spec hB ps 0) fun args => Spec.bnd (funS_spec hB FrnR.no (hx F hB) (ho F hB) d .no [] f args []) fun r => Spec.bnd (funS_spec hB FrnR.no (hx F hB) (ho F hB) d .no [] g args []) fun q => Spec.ret fun h1 h2 h3 => ?_
      obtain ⟨h', e, _⟩ := h2 (fun _ hh => by cases hh)
      obtain ⟨h'', e', _⟩ := h1 (fun _ hh => by cases hh)
      rw [h3] at e e'
      exact ⟨⟨h', e⟩, ⟨h'', e'⟩⟩
    obtain ⟨_, kc⟩ := key tab0 (v1, v2) F hm hF
    obtain ⟨_, ⟨h', e⟩, ⟨h'', e'⟩⟩ := kc cok0
    rw [← eqSV_spec 5 hv] at e'
    exact ⟨_, _, _, e, e', isTy_spec ht⟩

/-! ### contracts out of pairs -/
/-- what the evaluator finds -/
def valD (P : Program) (ext orc : Orc) (us : List FuncId) (cf d : Nat) (f : FuncId) (args : List Value) : Value :=
  match funD P ext orc us cf d f args [] with
  | some r => r.1
  | none => undef
theorem canon_fit {μ : Mu} : ∀ {l : List Ty} {cs ys : List Value}, fitL l cs = true → VRL μ cs ys → cs.map canonV = cs
  | [], [], _, _, _ => rfl
  | y :: r, v :: s, ys, h, hv => by
    match ys, hv with
    | u :: us, hv =>
      rw [fitL, Bool.and_eq_true] at h
      have h1 : canonV v = v := by
        have hu := hv.head
        cases v with
        | float k b => exact congrArg (Value.float k) (float_canon hu)
        | _ => rfl
      rw [List.map_cons, h1, canon_fit h.2 hv.tail]
    | [], hv => exact absurd hv.1 (by simp)
  | [], _ :: _, _, h, _ => by cases h
  | _ :: _, [], _, h, _ => by cases h
theorem canonP_fit {μ : Mu} {p : Par} {v u : Value} (h : fitP p v = true) (hv : VR μ v u) : canonP v = v := by
  unfold fitP at h
  split at h
  · rename_i l cs
    obtain ⟨ys, _, hl⟩ := hv.agg_inv
    show Value.agg (cs.toList.map canonV).toArray = _
    rw [canon_fit h hl]
  · rename_i y v'
    have hp := (fitV_val h).2.2.2.2.1
    rw [hp]
    cases v with
    | float k b => exact congrArg (Value.float k) (float_canon hv)
    | _ => rfl
  · cases h
theorem canonA_fit {μ : Mu} : ∀ {ps : List Par} {vs us : List Value}, fitA ps vs = true → VRL μ vs us → vs.map canonP = vs
  | [], [], _, _, _ => rfl
  | p :: r, v :: s, us, h, hv => by
    match us, hv with
    | u :: us, hv =>
      rw [fitA, Bool.and_eq_true] at h
      rw [List.map_cons, canonP_fit h.1 hv.head, canonA_fit h.2 hv.tail]
    | [], hv => exact absurd hv.1 (by simp)
  | [], _ :: _, _, h, _ => by cases h
  | _ :: _, [], _, h, _ => by cases h
theorem fit_plain {y : Ty} {v : Value} (h : fitV y v = true) : plainB v = true := by
  unfold fitV at h
  split at h <;> first | rfl | cases h
theorem pair_orc {P : Program} {ext orc : List (Nat × SymF)} {exte orce : List (Nat × Sig)} {us : List FuncId} {cf d : Nat} {f g : FuncId} {ps : List Par} {y : Ty} (U : Nat → Vl → Vl)
    (hm : P.follows .mixedOrders = true) (hus : us.all (funcOk P) = true) (hexte : ∀ p ∈ exte, ExtOne P p.1 p.2) (horce : ∀ p ∈ orce, OrcOne P p.1 p.2) (hf : hasBody P f = true) (hg : hasBody P g = true)
    (hx : ∀ F ρ, Base F ρ U → ListR F ρ U ext (fun f => seek f exte)) (ho : ∀ F ρ, Base F ρ U → ListR F ρ U orc (fun f => seek f orce)) (h : pairB P ext orc us cf d f g ps y = true) :
    OrcOne P f (sigU ps y (valD P (fun f => seek f exte) (fun f => seek f orce) us cf d f)) ∧ OrcOne P g (sigU ps y (valD P (fun f => seek f exte) (fun f => seek f orce) us cf d f)) := by
  have key : ∀ args v k, sigU ps y (valD P (fun f => seek f exte) (fun f => seek f orce) us cf d f) args = some (v, k) → (∃ μ cargs, VRL μ args cargs) → args.all plainB = true ∧ plainB v = true ∧
      (∃ h', funD P (fun f => seek f exte) (fun f => seek f orce) us cf d f args [] = some (v, h', true)) ∧ ∃ h', funD P (fun f => seek f exte) (fun f => seek f orce) us cf d g args [] = some (v, h', true) := by
    intro args v k he ⟨μ, cargs, hv⟩
    unfold sigU at he
    cases hfit : fitA ps args with
    | false => rw [hfit] at he; cases he
    | true =>
      rw [hfit, cond_true] at he
      have hc := canonA_fit hfit hv
      obtain ⟨u, h1, h2, e1, e2, hu⟩ := pair_run U (rhoOf args) (fun F hB => hx F _ hB) (fun F hB => ho F _ hB) h
      rw [rho_fit hfit, hc] at e1 e2
      have hval : valD P (fun f => seek f exte) (fun f => seek f orce) us cf d f args = u := by
        unfold valD
        rw [e1]
      rw [hval, fitV_of hu] at he
      cases he
      have hpl := (fitA_plain hfit).1
      rw [hc] at hpl
      exact ⟨hpl, fit_plain hu, ⟨h1, e1⟩, ⟨h2, e2⟩⟩
  exact ⟨orc_one hm hus hexte horce hf fun args v k he _ hx => ⟨(key args v k he hx).1, (key args v k he hx).2.1, (key args v k he hx).2.2.1⟩,
    orc_one hm hus hexte horce hg fun args v k he _ hx => ⟨(key args v k he hx).1, (key args v k he hx).2.1, (key args v k he hx).2.2.2⟩⟩
end Sx
end
noncomputable section
namespace Sx
open Go Ev Go.RowKit

/-! ### what holds of each number of a curve -/
inductive Ek where
  | share
  | pos
  | amount
  | fin
def ekO (e : Ek) (a : Nat) : Bool :=
  match e with
  | .share => fge .f32 a 0 && fle .f32 a 1065353216
  | .pos => fgt .f32 a 0 && fle .f32 a 1065353216
  | .amount => fge .f32 a 0 && finB a
  | .fin => finB a
def ekTwo (pc : PC) (op : BinOp) (i : Nat) : M Nat :=
  bnd (mkP 0 0) fun z => bnd (cmpZ op i z) fun g => bnd (mkP 0 1065353216) fun o => bnd (cmpF pc .f32 .leq i o) fun l => andS g l
/-- finite and not negative on this way -/
def amtS (pc : PC) (i : Nat) : M Unit := orM (bnd (ratioS pc i) fun _ => ret ()) <| bnd (geS pc i) fun a => gd a <| bnd (finS i) fun f => bnd (underS pc f) fun u => gd (Nat.beq u 1) (ret ())
/-- a sum of products of such numbers -/
def nonS (pc : PC) : Nat → Nat → M Unit
  | 0, _ => non
  | k + 1, i => fun t =>
    bif Nat.beq (opAt t i) 16 then bnd (nonS pc k (aOf (nodeAt t i))) (fun _ => nonS pc k (bOf (nodeAt t i))) t
    else bif Nat.beq (opAt t i) 18 then bnd (amtS pc (aOf (nodeAt t i))) (fun _ => amtS pc (bOf (nodeAt t i))) t
    else none
def ekS (pc : PC) (e : Ek) (i : Nat) : M Nat :=
  match e with
  | .share => ekTwo pc .geq i
  | .pos => ekTwo pc .gtr i
  | .amount => orM (bnd (nonS pc 12 i) fun _ => finP 6 pc i) (bnd (mkP 0 0) fun z => bnd (cmpZ .geq i z) fun g => bnd (finP 6 ((g, true) :: pc) i) fun f => andS g f)
  | .fin => finP 6 pc i
def allO (e : Ek) : List Value → Bool
  | [] => true
  | .float _ a :: r => ekO e a && allO e r
  | _ :: _ => false
def psC : List Par := [.agg (List.replicate 16 (.f .f32))]
def curveO (e : Ek) : Sig := fun args => bif fitA psC args then
  (match args with
  | [.agg xs] => some (.bool (allO e xs.toList), true)
  | _ => none) else none
def decsS (pc : PC) (e : Ek) : List SV → M (List Nat)
  | [] => ret []
  | x :: r => match isF x with
    | some .f32 => bnd (asF x) fun i => bnd (ekS pc e i) fun d => bnd (decsS pc e r) fun l => ret (d :: l)
    | _ => non
def conjS : List Nat → M Nat
  | [] => ret 1
  | d :: r => bnd (conjS r) fun q => andS d q
def curveSy (e : Ek) : SymF := fun pc args =>
  match args with
  | [.agg l] => gd (Nat.beq l.length 16) <| bnd (decsS pc e l) fun ds => bnd (conjS ds) fun r => ret (.b r)
  | _ => non

section
variable {F : Tab} {ρ : Nat → Int} {U : Nat → Vl → Vl}
theorem ekTwo_spec (hB : Base F ρ U) {pc : PC} {op : BinOp} {i : Nat} : Spec F (ekTwo pc op i) (fun r => pcH F ρ U pc → isCmp op = true ∧ tv F ρ U r = (fcmp op .f32 (raw F ρ U i).nat 0 && fle .f32 (raw F ρ U i).nat 1065353216)) := by
  unfold ekTwo
  refine Spec.bnd (mkP_spec (ρ := ρ) (U := U) (by decide)) fun z => Spec.bnd (cmpZ_spec hB) fun g => Spec.bnd (mkP_spec (ρ := ρ) (U := U) (by decide)) fun o => Spec.bnd (cmpF_spec hB) fun l => (andS_spec hB).mono fun r h1 h2 h3 h4 h5 hp => ?_
  refine ⟨h4.1, ?_⟩
  have h6 := (h2 hp).2
  rw [h3, op0] at h6
  have h7 := h4.2
  rw [h5, op0] at h7
  rw [h1, h6, h7]
  rfl
theorem amtS_spec (hB : Base F ρ U) {pc : PC} {i : Nat} : Spec F (amtS pc i) (fun _ => pcH F ρ U pc → nnb .f32 (raw F ρ U i).nat ∧ finB (raw F ρ U i).nat = true) := by
  unfold amtS
  refine orM_spec (Spec.bnd (ratioS_spec hB) fun _ => Spec.ret fun h hp => ⟨bits_nn (h hp).1, bits_fin (h hp).1⟩) ?_
  refine Spec.bnd (geS_spec hB) fun a => Spec.gd fun ha => Spec.bnd (finS_spec hB) fun f => Spec.bnd (underS_spec hB pc f) fun u => Spec.gd fun hu => Spec.ret fun h3 h2 h1 hp => ?_
  refine ⟨nn_ge (h1 ha hp), ?_⟩
  rw [← h2]
  exact h3 (by rw [beqT hu]; exact hB.t1) hp
theorem nonS_spec (hB : Base F ρ U) {pc : PC} : ∀ (k i : Nat), Spec F (nonS pc k i) (fun _ => pcH F ρ U pc → nnb .f32 (raw F ρ U i).nat)
  | 0, _ => Spec.non
  | k + 1, i => fun t r t' e hF => by
    unfold nonS at e
    cases h1 : Nat.beq (opAt t i) 16 with
    | true =>
      rw [h1, cond_true] at e
      have key : Spec F (bnd (nonS pc k (aOf (nodeAt t i))) fun _ => nonS pc k (bOf (nodeAt t i))) (fun _ => pcH F ρ U pc → nnb .f32 (raw F ρ U (aOf (nodeAt t i))).nat ∧ nnb .f32 (raw F ρ U (bOf (nodeAt t i))).nat) :=
        Spec.bnd (nonS_spec hB k _) fun _ => (nonS_spec hB k _).mono fun _ h1 h2 hp => ⟨h2 hp, h1 hp⟩
      refine Spec.via key e hF fun k1 k2 hp => ?_
      obtain ⟨g1, g2⟩ := opAt_spec (beqT h1) (by decide)
      rw [raw_at k1 g1]
      unfold nodeVal
      rw [g2, op16]
      exact nn_add (k2 hp).1 (k2 hp).2
    | false =>
    rw [h1, cond_false] at e
    cases h2 : Nat.beq (opAt t i) 18 with
    | false => rw [h2, cond_false] at e; cases e
    | true =>
      rw [h2, cond_true] at e
      have key : Spec F (bnd (amtS pc (aOf (nodeAt t i))) fun _ => amtS pc (bOf (nodeAt t i))) (fun _ => pcH F ρ U pc → (nnb .f32 (raw F ρ U (aOf (nodeAt t i))).nat ∧ finB (raw F ρ U (aOf (nodeAt t i))).nat = true) ∧ (nnb .f32 (raw F ρ U (bOf (nodeAt t i))).nat ∧ finB (raw F ρ U (bOf (nodeAt t i))).nat = true)) :=
        Spec.bnd (amtS_spec hB) fun _ => (amtS_spec hB).mono fun _ h1 h2 hp => ⟨h2 hp, h1 hp⟩
      refine Spec.via key e hF fun k1 k2 hp => ?_
      obtain ⟨⟨a1, a2⟩, b1, b2⟩ := k2 hp
      obtain ⟨g1, g2⟩ := opAt_spec (beqT h2) (by decide)
      rw [raw_at k1 g1]
      unfold nodeVal
      rw [g2, op18]
      exact nn_mul a1 a2 b1 b2
theorem ekS_spec (hB : Base F ρ U) {pc : PC} {e : Ek} {i : Nat} : Spec F (ekS pc e i) (fun r => pcH F ρ U pc → tv F ρ U r = ekO e (raw F ρ U i).nat) := by
  unfold ekS
  cases e with
  | share => exact (ekTwo_spec hB).mono fun r h hp => (h hp).2
  | pos => exact (ekTwo_spec hB).mono fun r h hp => (h hp).2
  | amount =>
    refine orM_spec (Spec.bnd (nonS_spec hB 12 i) fun _ => (finP_spec hB 6 pc i).mono fun r h1 h2 hp => ?_) ?_
    · rw [h1 hp]
      show _ = (fge .f32 (raw F ρ U i).nat 0 && finB (raw F ρ U i).nat)
      rw [ge_nn (h2 hp)]; rfl
    refine Spec.bnd (mkP_spec (ρ := ρ) (U := U) (by decide)) fun z => Spec.bnd (cmpZ_spec hB) fun g => Spec.bnd (finP_spec hB 6 _ i) fun f => (andS_spec hB).mono fun r h1 h2 h3 h4 hp => ?_
    have h7 := h3.2
    rw [h4, op0] at h7
    rw [h1]
    have h8 : tv F ρ U g = fge .f32 (raw F ρ U i).nat 0 := h7
    show _ = (fge .f32 (raw F ρ U i).nat 0 && finB (raw F ρ U i).nat)
    cases hg : tv F ρ U g with
    | false => rw [← h8, hg]; rfl
    | true => rw [← h8, hg, h2 (hp.cons hg)]
  | fin => exact finP_spec hB 6 pc i
theorem decsS_spec (hB : Base F ρ U) {pc : PC} {e : Ek} : ∀ (l : List SV), Spec F (decsS pc e l) (fun ds => fitL (List.replicate l.length (.f .f32)) (cvl F ρ U l) = true ∧ (pcH F ρ U pc → (ds.all fun d => tv F ρ U d) = allO e (cvl F ρ U l)))
  | [] => Spec.ret ⟨rfl, fun _ => rfl⟩
  | x :: r => by
    unfold decsS
    split
    · rename_i hx
      refine Spec.bnd (asF_spec (ρ := ρ) (U := U) hx) fun i => Spec.bnd (ekS_spec hB) fun d => Spec.bnd (decsS_spec hB r) fun l => Spec.ret fun h1 h2 h3 => ?_
      rw [cvl_cons, h3]
      refine ⟨?_, fun hp => ?_⟩
      · show (true && fitL (List.replicate r.length (.f .f32)) (cvl F ρ U r)) = true
        rw [h1.1]; rfl
      · show (tv F ρ U d && (l.all fun d => tv F ρ U d)) = (ekO e (raw F ρ U i).nat && allO e (cvl F ρ U r))
        rw [h2 hp, h1.2 hp]
    · exact Spec.non
theorem conjS_spec (hB : Base F ρ U) : ∀ (l : List Nat), Spec F (conjS l) (fun r => tv F ρ U r = l.all fun d => tv F ρ U d)
  | [] => Spec.ret hB.t1
  | d :: r => by
    unfold conjS
    refine Spec.bnd (conjS_spec hB r) fun q => (andS_spec hB).mono fun x h1 h2 => ?_
    rw [h1, h2]; rfl
theorem curveSy_ok (hB : Base F ρ U) (e : Ek) : SymOk F ρ U (curveO e) (curveSy e) := fun pc args => by
  unfold curveSy
  split
  · rename_i l
    refine Spec.gd fun hl => Spec.bnd (decsS_spec hB l) fun ds => Spec.bnd (conjS_spec hB ds) fun r => Spec.ret fun h1 h2 hp => ?_
    have hl := beqT hl
    rw [hl] at h2
    unfold curveO
    rw [cvl_cons, cv_agg]
    have hf : fitA psC [Value.agg (cvl F ρ U l).toArray] = true := by
      show (fitL (List.replicate 16 (.f .f32)) (cvl F ρ U l) && true) = true
      rw [h2.1]; rfl
    show (bif fitA psC [Value.agg (cvl F ρ U l).toArray] then _ else none) = _
    rw [hf, cond_true, cv_b, h1, h2.2 hp]
    rfl
  · exact Spec.non
end

/-! ### rows of numbers, handed on and compared -/
def f32S (x : SV) : Bool :=
  match isF x with
  | some .f32 => true
  | _ => false
def idSy (n : Nat) : SymF := fun _ args =>
  match args with
  | [.agg l] => gd (Nat.beq l.length n && l.all f32S) (ret (.agg l))
  | _ => non
/-- the same numbers on this way -/
def rowSel (pc : PC) : List SV → List SV → M Unit
  | [], [] => ret ()
  | x :: r, y :: s => bnd (bif eqSV 5 x y then ret () else bnd (asF x) fun i => bnd (asF y) fun j => needEq pc i j) fun _ => rowSel pc r s
  | _, _ => non
def eqSy (n : Nat) : SymF := fun pc args =>
  match args with
  | [.agg l, .agg m] => gd (Nat.beq l.length n && (l.all f32S && m.all f32S)) (bnd (rowSel pc l m) fun _ => ret (.lit (.bool true)))
  | _ => non
section
variable {F : Tab} {ρ : Nat → Int} {U : Nat → Vl → Vl}
theorem f32S_cv {x : SV} (h : f32S x = true) : ∃ z, cv F ρ U x = .float .f32 z := by
  unfold f32S at h
  split at h
  · rename_i hx
    unfold isF at hx
    split at hx
    · cases hx; exact ⟨_, cv_f _ _⟩
    · cases hx; exact ⟨_, cv_lit _⟩
    · cases hx
  · cases h
theorem f32S_row : ∀ {l : List SV}, l.all f32S = true → rowF32 (cvl F ρ U l) = true ∧ eqF32 (cvl F ρ U l) (cvl F ρ U l) = true
  | [], _ => ⟨rfl, rfl⟩
  | x :: r, h => by
    rw [List.all_cons, Bool.and_eq_true] at h
    obtain ⟨z, hz⟩ := f32S_cv (F := F) (ρ := ρ) (U := U) h.1
    obtain ⟨h1, h2⟩ := f32S_row h.2
    rw [cvl_cons, hz]
    refine ⟨h1, ?_⟩
    show (Nat.beq z z && eqF32 (cvl F ρ U r) (cvl F ρ U r)) = true
    rw [Nat.beq_refl, h2]; rfl
theorem idSy_ok {n : Nat} : SymOk F ρ U (idN n) (idSy n) := fun pc args => by
  unfold idSy
  split
  · rename_i l
    refine Spec.gd fun h => Spec.ret fun _ => ?_
    rw [Bool.and_eq_true] at h
    rw [cvl_cons, cv_agg]
    show some (Value.agg (cvl F ρ U l).toArray, Nat.beq (cvl F ρ U l).length n && rowF32 (cvl F ρ U l)) = _
    rw [len_cvl, h.1, (f32S_row h.2).1]; rfl
  · exact Spec.non
theorem f32S_isF {x : SV} (h : f32S x = true) : isF x = some .f32 := by
  unfold f32S at h
  split at h
  · assumption
  · cases h
theorem rowSel_spec (hB : Base F ρ U) {pc : PC} : ∀ {l m : List SV}, l.all f32S = true → m.all f32S = true → Spec F (rowSel pc l m) (fun _ => pcH F ρ U pc → cvl F ρ U l = cvl F ρ U m)
  | [], [], _, _ => Spec.ret fun _ => rfl
  | x :: r, y :: s, h1, h2 => by
    rw [List.all_cons, Bool.and_eq_true] at h1 h2
    unfold rowSel
    have key : Spec F (bif eqSV 5 x y then ret () else bnd (asF x) fun i => bnd (asF y) fun j => needEq pc i j) (fun _ => pcH F ρ U pc → cv F ρ U x = cv F ρ U y) := by
      refine Spec.bif (fun e => Spec.ret fun _ => eqSV_spec 5 e) fun _ => ?_
      refine Spec.bnd (asF_spec (ρ := ρ) (U := U) (f32S_isF h1.1)) fun i => Spec.bnd (asF_spec (ρ := ρ) (U := U) (f32S_isF h2.1)) fun j => (needEq_spec hB).mono fun _ a b c hp => ?_
      rw [b, c, a hp]
    refine Spec.bnd key fun _ => (rowSel_spec hB h1.2 h2.2).mono fun _ a b hp => ?_
    rw [cvl_cons, cvl_cons, a hp, b hp]
  | [], _ :: _, _, _ => Spec.non
  | _ :: _, [], _, _ => Spec.non
theorem eqSy_ok (hB : Base F ρ U) {n : Nat} : SymOk F ρ U (eqN n) (eqSy n) := fun pc args => by
  unfold eqSy
  split
  · rename_i l m
    refine Spec.gd fun h => ?_
    rw [Bool.and_eq_true, Bool.and_eq_true] at h
    refine Spec.bnd (rowSel_spec hB h.2.1 h.2.2) fun _ => Spec.ret fun h0 hp => ?_
    have e := h0 hp
    rw [cvl_cons, cvl_cons, cv_agg, cv_agg, cv_lit]
    show some (Value.bool true, Nat.beq (cvl F ρ U l).length n && eqF32 (cvl F ρ U l) (cvl F ρ U m)) = _
    rw [← e, len_cvl, h.1, (f32S_row h.2.1).2]; rfl
  · exact Spec.non
end

/-! ### contracts that are known -/
def conM (P : Program) (ext orc : List (Nat × SymF)) (us : List FuncId) (cf d : Nat) (f : FuncId) (e : SymF) (ps : List Par) : M (SV × SV) :=
  bnd (parsS ps 0) fun args => bnd (funS P ext orc us cf d .no [] f args []) fun r => bnd (e [] args) fun q => ret (r.1, q)
def conB (P : Program) (ext orc : List (Nat × SymF)) (us : List FuncId) (cf d : Nat) (f : FuncId) (e : SymF) (ps : List Par) (y : Ty) : Bool := okPair y (conM P ext orc us cf d f e ps tab0)
theorem con_run {P : Program} {ext orc : List (Nat × SymF)} {exte orce : Orc} {us : List FuncId} {cf d : Nat} {f : FuncId} {e : SymF} {G : Sig} {ps : List Par} {y : Ty} (U : Nat → Vl → Vl) (ρ : Nat → Int)
    (hx : ∀ F, Base F ρ U → ListR F ρ U ext exte) (ho : ∀ F, Base F ρ U → ListR F ρ U orc orce) (he : ∀ F, Base F ρ U → SymOk F ρ U G e) (h : conB P ext orc us cf d f e ps y = true) :
    ∃ v h1, funD P exte orce us cf d f (parsVal ρ ps 0) [] = some (v, h1, true) ∧ G (parsVal ρ ps 0) = some (v, true) ∧ fitV y v = true := by
  unfold conB at h
  cases hm : conM P ext orc us cf d f e ps tab0 with
  | none => rw [hm] at h; cases h
  | some r =>
    obtain ⟨⟨v1, v2⟩, F⟩ := r
    rw [hm] at h
    have h : ((eqSV 5 v1 v2 && isTy y v1) && (wfB F F.n && (Nat.blt 1 F.n && (Nat.beq (nodeAt F 0) 0 && Nat.beq (nodeAt F 1) 256)))) = true := h
    simp only [Bool.and_eq_true] at h
    obtain ⟨⟨hv, ht⟩, hw, hn, b0, b1⟩ := h
    have hF := le_self hw
    have hn := bltT hn
    have hB : Base F ρ U := by
      refine ⟨?_, ?_⟩
      · rw [raw_at hF (i := 0) (by omega), beqT b0]; rfl
      · rw [raw_at hF (i := 1) hn, beqT b1]; rfl
    have key : Spec F (conM P ext orc us cf d f e ps) (fun v => (∃ h', funD P exte orce us cf d f (parsVal ρ ps 0) [] = some (cv F ρ U v.1, h', true)) ∧ G (parsVal ρ ps 0) = some (cv F ρ U v.2, true)) := by
      unfold conM
      refine Spec.bnd (parsS_spec hB ps 0) fun args => Spec.bnd (funS_spec hB FrnR.no (hx F hB) (ho F hB) d .no [] f args []) fun r => Spec.bnd (he F hB [] args) fun q => Spec.ret fun h1 h2 h3 => ?_
      obtain ⟨h', e, _⟩ := h2 (fun _ hh => by cases hh)
      have e' := h1 (fun _ hh => by cases hh)
      rw [h3] at e e'
      exact ⟨⟨h', e⟩, e'⟩
    obtain ⟨_, kc⟩ := key tab0 (v1, v2) F hm hF
    obtain ⟨_, ⟨h', e⟩, e'⟩ := kc cok0
    rw [← eqSV_spec 5 hv] at e'
    exact ⟨_, _, e, e', isTy_spec ht⟩
theorem con_orc {P : Program} {ext orc : List (Nat × SymF)} {exte orce : List (Nat × Sig)} {us : List FuncId} {cf d : Nat} {f : FuncId} {e : SymF} {G : Sig} {ps : List Par} {y : Ty} (U : Nat → Vl → Vl)
    (hm : P.follows .mixedOrders = true) (hus : us.all (funcOk P) = true) (hexte : ∀ p ∈ exte, ExtOne P p.1 p.2) (horce : ∀ p ∈ orce, OrcOne P p.1 p.2) (hf : hasBody P f = true)
    (hx : ∀ F ρ, Base F ρ U → ListR F ρ U ext (fun f => seek f exte)) (ho : ∀ F ρ, Base F ρ U → ListR F ρ U orc (fun f => seek f orce)) (he : ∀ F ρ, Base F ρ U → SymOk F ρ U G e)
    (hG : ∀ args v k, G args = some (v, k) → fitA ps args = true) (h : conB P ext orc us cf d f e ps y = true) : OrcOne P f G := by
  refine orc_one (cf := cf) (d := d) hm hus hexte horce hf fun args v k hg _ ⟨μ, cargs, hv⟩ => ?_
  have hfit := hG args v k hg
  have hc := canonA_fit hfit hv
  obtain ⟨u, h1, e1, e2, hu⟩ := con_run U (rhoOf args) (fun F hB => hx F _ hB) (fun F hB => ho F _ hB) (fun F hB => he F _ hB) h
  rw [rho_fit hfit, hc] at e1 e2
  rw [hg] at e2
  cases e2
  have hpl := (fitA_plain hfit).1
  rw [hc] at hpl
  exact ⟨hpl, fit_plain hu, h1, e1⟩
theorem curveO_fit {e : Ek} (args : List Value) (v : Value) (k : Bool) (h : curveO e args = some (v, k)) : fitA psC args = true := by
  unfold curveO at h
  cases hf : fitA psC args with
  | true => rfl
  | false => rw [hf] at h; cases h
/-! ### the lesser of two -/
def minSy : SymF := fun _ args => match args with
  | [x, y] => match isI x, isI y with
    | some .i64, some .i64 => bnd (asI x) fun i => bnd (asI y) fun j => bnd (mk3 112 i j 0) fun r => ret (.n .i64 r)
    | _, _ => non
  | _ => non
def minO : Sig
  | [.int .i64 a, .int .i64 b] => some (.int .i64 (if a < b then a else b), true)
  | _ => none
theorem minSy_ok {F : Tab} {ρ : Nat → Int} {U : Nat → Vl → Vl} : SymOk F ρ U minO minSy := fun pc args => by
  unfold minSy
  split
  · split
    · rename_i hx hy
      refine Spec.bnd (asI_spec (ρ := ρ) (U := U) hx) fun i => Spec.bnd (asI_spec (ρ := ρ) (U := U) hy) fun j => Spec.bnd (mk3_spec (ρ := ρ) (U := U)) fun r => Spec.ret fun h1 h2 h3 _ => ?_
      obtain ⟨p, hp⟩ := h1
      show minO [cv F ρ U _, cv F ρ U _] = _
      rw [h2, h3, cv_n, hp, op112]; rfl
    · exact Spec.non
  · exact Spec.non
end Sx
end
noncomputable section
namespace Sx
open Go Ev Go.RowKit

/-! ### laws, part by part -/
/-- what is laid ahead of a run: that the first number is less than another one, or not -/
def lessP (c : Int) (pos : Bool) : List SV → M PC
  | x :: _ => bnd (asI x) fun i => bnd (asI (.lit (.int .i64 c))) fun j => bnd (ltI i j pos) fun v => bnd (opt (asB v)) fun g => ret [(g, true)]
  | [] => non
def lessE (c : Int) (pos : Bool) : List Value → Bool
  | .int _ z :: _ => bif pos then decide (z < c) else !decide (z < c)
  | _ => false
def lawMP (P : Program) (ext orc : List (Nat × SymF)) (us : List FuncId) (cf d : Nat) (f : FuncId) (ps : List Par) (pre : List SV → M PC) : M SV :=
  bnd (parsS ps 0) fun args => bnd (pre args) fun pc => bnd (funS P ext orc us cf d .no pc f args []) fun r => ret r.1
def lawPB (P : Program) (ext orc : List (Nat × SymF)) (us : List FuncId) (cf d : Nat) (f : FuncId) (ps : List Par) (pre : List SV → M PC) : Bool := okLaw (lawMP P ext orc us cf d f ps pre tab0)
def PreOk (F : Tab) (ρ : Nat → Int) (U : Nat → Vl → Vl) (pre : List SV → M PC) (E : List Value → Bool) : Prop := ∀ args, Spec F (pre args) (fun pc => E (cvl F ρ U args) = true → pcH F ρ U pc)
theorem lessP_ok {F : Tab} {ρ : Nat → Int} {U : Nat → Vl → Vl} (hB : Base F ρ U) (c : Int) (pos : Bool) : PreOk F ρ U (lessP c pos) (lessE c pos) := fun args => by
  unfold lessP
  split
  · rename_i x r
    cases hx : isI x with
    | none =>
      refine Spec.bnd (Q := fun _ => True) ?_ fun i => ?_
      · intro t a t' e hF
        exfalso
        unfold asI at e
        unfold isI at hx
        split at e
        · cases hx
        · cases hx
        · cases hx
        · cases e
      · exact Spec.bnd (asI_spec (ρ := ρ) (U := U) (k := .i64) rfl) fun j => Spec.bnd (ltI_spec hB) fun v => Spec.bnd (optB hB) fun g => Spec.ret fun _ _ _ _ he => by
          rw [cvl_cons] at he
          unfold lessE at he
          unfold isI at hx
          split at he
          · rename_i k z q hq
            cases x <;> first | (cases hx; done) | (rename_i v; cases v <;> first | (cases hx; done) | (rw [cv_lit] at hq; cases hq; done)) | skip
            all_goals (exfalso; revert hq; simp [cv, conc])
          · cases he
    | some k =>
      refine Spec.bnd (asI_spec (ρ := ρ) (U := U) hx) fun i => Spec.bnd (asI_spec (ρ := ρ) (U := U) (k := .i64) rfl) fun j => Spec.bnd (ltI_spec hB) fun v => Spec.bnd (optB hB) fun g => Spec.ret fun h1 h2 h3 h4 he => ?_
      rw [cvl_cons, h4] at he
      rw [cv_lit] at h3
      injection h3 with _ h3
      rw [h2, ← h3] at h1
      injection h1 with h1
      have he : (bif pos then decide ((raw F ρ U i).z < c) else !decide ((raw F ρ U i).z < c)) = true := he
      intro q hq
      rcases List.mem_cons.1 hq with rfl | hq
      · show tv F ρ U g = true
        rw [← h1]; exact he
      · cases hq
  · exact Spec.non
theorem law_runP {P : Program} {ext orc : List (Nat × SymF)} {exte orce : Orc} {us : List FuncId} {cf d : Nat} {f : FuncId} {ps : List Par} {pre : List SV → M PC} {E : List Value → Bool} (U : Nat → Vl → Vl) (ρ : Nat → Int)
    (hx : ∀ F, Base F ρ U → ListR F ρ U ext exte) (ho : ∀ F, Base F ρ U → ListR F ρ U orc orce) (hp : ∀ F, Base F ρ U → PreOk F ρ U pre E) (h : lawPB P ext orc us cf d f ps pre = true) (hE : E (parsVal ρ ps 0) = true) :
    ∃ h', funD P exte orce us cf d f (parsVal ρ ps 0) [] = some (.bool true, h', true) := by
  unfold lawPB at h
  cases hm : lawMP P ext orc us cf d f ps pre tab0 with
  | none => rw [hm] at h; cases h
  | some r =>
    obtain ⟨v, F⟩ := r
    rw [hm] at h
    have h : (isTrueS v && (wfB F F.n && (Nat.blt 1 F.n && (Nat.beq (nodeAt F 0) 0 && Nat.beq (nodeAt F 1) 256)))) = true := h
    simp only [Bool.and_eq_true] at h
    obtain ⟨hv, hw, hn, b0, b1⟩ := h
    have hF := le_self hw
    have hn := bltT hn
    have hB : Base F ρ U := by
      refine ⟨?_, ?_⟩
      · rw [raw_at hF (i := 0) (by omega), beqT b0]; rfl
      · rw [raw_at hF (i := 1) hn, beqT b1]; rfl
    have key : Spec F (lawMP P ext orc us cf d f ps pre) (fun v => ∃ h', funD P exte orce us cf d f (parsVal ρ ps 0) [] = some (cv F ρ U v, h', true)) := by
      unfold lawMP
      refine Spec.bnd (parsS_spec hB ps 0) fun args => Spec.bnd (hp F hB args) fun pc => Spec.bnd (funS_spec hB FrnR.no (hx F hB) (ho F hB) d .no pc f args []) fun r => Spec.ret fun h1 h2 h3 => ?_
      rw [h3] at h1 h2
      obtain ⟨h', e, _⟩ := h1 (h2 hE)
      exact ⟨h', e⟩
    obtain ⟨_, kc⟩ := key tab0 v F hm hF
    obtain ⟨_, h', e⟩ := kc cok0
    rw [isTrueS_spec hB hv] at e
    exact ⟨h', e⟩
theorem sx_walkP {P : Program} {ext orc : List (Nat × SymF)} {exte orce : List (Nat × Sig)} {us : List FuncId} {cf d : Nat} {f : FuncId} {ps : List Par} {pre : List SV → M PC} {E : List Value → Bool} (U : Nat → Vl → Vl)
    (hm : P.follows .mixedOrders = true) (hus : us.all (funcOk P) = true) (hexte : ∀ p ∈ exte, ExtOne P p.1 p.2) (horce : ∀ p ∈ orce, OrcOne P p.1 p.2)
    (hx : ∀ F ρ, Base F ρ U → ListR F ρ U ext (fun f => seek f exte)) (ho : ∀ F ρ, Base F ρ U → ListR F ρ U orc (fun f => seek f orce)) (hp : ∀ F ρ, Base F ρ U → PreOk F ρ U pre E) (h : lawPB P ext orc us cf d f ps pre = true)
    {vs : List Value} (hv : fitA ps vs = true) (hE : E (vs.map canonP) = true) (w : World) : Calls P f vs.toArray w fun e w' => e = .returned (.bool true) ∧ Below w.heap.size w w' := by
  obtain ⟨h1, h2⟩ := fitA_plain hv
  have he := law_runP U (rhoOf vs) (fun F hB => hx F _ hB) (fun F hB => ho F _ hB) (fun F hB => hp F _ hB) h (by rw [rho_fit hv]; exact hE)
  rw [rho_fit hv] at he
  exact fun_law hm hus (ext_list hexte) (orc_list horce) noCon he h1 h2 w (noIn w)
theorem one_int {k : IntKind} {vs : List Value} (h : fitA [.one (.n k)] vs = true) : ∃ z, vs = [.int k z] := by
  match vs with
  | [v] =>
    have h : (fitP (.one (.n k)) v && true) = true := h
    rw [Bool.and_true] at h
    have h : fitV (.n k) v = true := by
      cases v <;> exact h
    cases v with
    | int k' z =>
      have h : sameI k k' = true := h
      rw [sameI_eq h]; exact ⟨_, rfl⟩
    | _ => cases h
  | [] => cases h
  | v :: v' :: r =>
    have h : (fitP (.one (.n k)) v && false) = true := h
    rw [Bool.and_false] at h
    cases h
/-- the evaluator itself says so -/
def isTrueD : Option (Value × Heap × Bool) → Bool
  | some (.bool b, _, k) => b && k
  | _ => false
theorem lit_walk {P : Program} {exte orce : List (Nat × Sig)} {us : List FuncId} {cf d : Nat} {f : FuncId} {ps : List Par}
    (hm : P.follows .mixedOrders = true) (hus : us.all (funcOk P) = true) (hexte : ∀ p ∈ exte, ExtOne P p.1 p.2) (horce : ∀ p ∈ orce, OrcOne P p.1 p.2) {vs : List Value} (hv : fitA ps vs = true)
    (h : isTrueD (funD P (fun f => seek f exte) (fun f => seek f orce) us cf d f (vs.map canonP) []) = true) (w : World) : Calls P f vs.toArray w fun e w' => e = .returned (.bool true) ∧ Below w.heap.size w w' := by
  obtain ⟨h1, h2⟩ := fitA_plain hv
  refine fun_law hm hus (ext_list hexte) (orc_list horce) noCon (us := us) (cf := cf) (d := d) ?_ h1 h2 w (noIn w)
  unfold isTrueD at h
  split at h
  · rename_i b h' k e
    rw [Bool.and_eq_true] at h
    exact ⟨h', by rw [e, h.1, h.2]⟩
  · cases h
end Sx
end
noncomputable section
namespace Sx
open Go Ev Go.RowKit

/-! ### laws under conditions on any argument -/
/-- a condition: the argument 'k' is less than 'c' (or not), or it is just 'v' -/
inductive Cnd where
  | lt (k : Nat) (c : Int) (pos : Bool)
  | eq (k : Nat) (v : Value)
def condsS : List Cnd → List SV → M (List SV × PC)
  | [], args => ret (args, [])
  | .lt k c pos :: r, args => bnd (opt args[k]?) fun x => bnd (asI x) fun i => bnd (asI (.lit (.int .i64 c))) fun j => bnd (ltI i j pos) fun v => bnd (opt (asB v)) fun g =>
      bnd (condsS r args) fun q => ret (q.1, (g, true) :: q.2)
  | .eq k v :: r, args => condsS r (args.set k (.lit v))
def condsH : List Cnd → List Value → Prop
  | [], _ => True
  | .lt k c pos :: r, vs => (∃ kd z, vs[k]? = some (.int kd z) ∧ (bif pos then decide (z < c) else !decide (z < c)) = true) ∧ condsH r vs
  | .eq k v :: r, vs => vs[k]? = some v ∧ condsH r vs
theorem condsS_ok {F : Tab} {ρ : Nat → Int} {U : Nat → Vl → Vl} (hB : Base F ρ U) : ∀ (l : List Cnd) (args : List SV), Spec F (condsS l args) (fun q => condsH l (cvl F ρ U args) → cvl F ρ U q.1 = cvl F ρ U args ∧ pcH F ρ U q.2)
  | [], args => by
    unfold condsS
    exact Spec.ret fun _ => ⟨rfl, fun q hq => by cases hq⟩
  | .eq k v :: r, args => by
    unfold condsS
    refine (condsS_ok hB r (args.set k (.lit v))).mono fun q h1 h2 => ?_
    obtain ⟨e, h2⟩ := h2
    have hs : cvl F ρ U (args.set k (.lit v)) = cvl F ρ U args := by
      unfold cvl at e ⊢
      rw [List.map_set]
      rw [show conc (raw F ρ U) (.lit v) = v from cv_lit v]
      apply List.ext_getElem?
      intro i
      rw [List.getElem?_set]
      by_cases hi : k = i
      · subst hi
        rw [if_pos rfl]
        have : k < (args.map (conc (raw F ρ U))).length := (List.getElem?_eq_some_iff.1 e).1
        rw [if_pos this, e]
      · rw [if_neg hi]
    rw [hs] at h1
    exact h1 h2
  | .lt k c pos :: r, args => by
    unfold condsS
    refine Spec.bnd (Spec.opt (o := args[k]?)) fun x => ?_
    cases hx : isI x with
    | none =>
      refine Spec.bnd (Q := fun _ => False) ?_ fun i => ?_
      · intro t a t' e hF
        exfalso
        unfold asI at e
        unfold isI at hx
        split at e
        · cases hx
        · cases hx
        · cases hx
        · cases e
      · exact Spec.bnd (asI_spec (ρ := ρ) (U := U) (k := .i64) rfl) fun j => Spec.bnd (ltI_spec hB) fun v => Spec.bnd (optB hB) fun g => Spec.bnd (condsS_ok hB r args) fun q => Spec.ret fun _ _ _ _ hf => hf.elim
    | some kd =>
      refine Spec.bnd (asI_spec (ρ := ρ) (U := U) hx) fun i => Spec.bnd (asI_spec (ρ := ρ) (U := U) (k := .i64) rfl) fun j => Spec.bnd (ltI_spec hB) fun v => Spec.bnd (optB hB) fun g => Spec.bnd (condsS_ok hB r args) fun q => Spec.ret fun h0 h1 h2 h3 h4 h5 he => ?_
      obtain ⟨⟨kd', z, e1, e2⟩, e3⟩ := he
      obtain ⟨a1, a2⟩ := h0 e3
      refine ⟨a1, fun p hp => ?_⟩
      rcases List.mem_cons.1 hp with rfl | hp
      · show tv F ρ U g = true
        have hxk : cv F ρ U x = .int kd' z := by
          unfold cvl at e1
          rw [List.getElem?_map] at e1
          rw [h5] at e1
          simpa using e1
        rw [h4] at hxk
        injection hxk with _ hz
        rw [cv_lit] at h3
        injection h3 with _ h3
        rw [h2, ← h3, hz] at h1
        injection h1 with h1
        rw [← h1]
        exact e2
      · exact a2 p hp
def lawMC (P : Program) (ext orc : List (Nat × SymF)) (us : List FuncId) (cf d : Nat) (f : FuncId) (ps : List Par) (l : List Cnd) : M SV :=
  bnd (parsS ps 0) fun args => bnd (condsS l args) fun q => bnd (funS P ext orc us cf d .no q.2 f q.1 []) fun r => ret r.1
def lawCB (P : Program) (ext orc : List (Nat × SymF)) (us : List FuncId) (cf d : Nat) (f : FuncId) (ps : List Par) (l : List Cnd) : Bool := okLaw (lawMC P ext orc us cf d f ps l tab0)
theorem law_runC {P : Program} {ext orc : List (Nat × SymF)} {exte orce : Orc} {us : List FuncId} {cf d : Nat} {f : FuncId} {ps : List Par} {l : List Cnd} (U : Nat → Vl → Vl) (ρ : Nat → Int)
    (hx : ∀ F, Base F ρ U → ListR F ρ U ext exte) (ho : ∀ F, Base F ρ U → ListR F ρ U orc orce) (h : lawCB P ext orc us cf d f ps l = true) (hE : condsH l (parsVal ρ ps 0)) :
    ∃ h', funD P exte orce us cf d f (parsVal ρ ps 0) [] = some (.bool true, h', true) := by
  unfold lawCB at h
  cases hm : lawMC P ext orc us cf d f ps l tab0 with
  | none => rw [hm] at h; cases h
  | some r =>
    obtain ⟨v, F⟩ := r
    rw [hm] at h
    have h : (isTrueS v && (wfB F F.n && (Nat.blt 1 F.n && (Nat.beq (nodeAt F 0) 0 && Nat.beq (nodeAt F 1) 256)))) = true := h
    simp only [Bool.and_eq_true] at h
    obtain ⟨hv, hw, hn, b0, b1⟩ := h
    have hF := le_self hw
    have hn := bltT hn
    have hB : Base F ρ U := by
      refine ⟨?_, ?_⟩
      · rw [raw_at hF (i := 0) (by omega), beqT b0]; rfl
      · rw [raw_at hF (i := 1) hn, beqT b1]; rfl
    have key : Spec F (lawMC P ext orc us cf d f ps l) (fun v => ∃ h', funD P exte orce us cf d f (parsVal ρ ps 0) [] = some (cv F ρ U v, h', true)) := by
      unfold lawMC
      refine Spec.bnd (parsS_spec hB ps 0) fun args => Spec.bnd (condsS_ok hB l args) fun q => Spec.bnd (funS_spec hB FrnR.no (hx F hB) (ho F hB) d .no q.2 f q.1 []) fun r => Spec.ret fun h1 h2 h3 => ?_
      rw [h3] at h2
      obtain ⟨g1, g2⟩ := h2 hE
      rw [g1] at h1
      obtain ⟨h', e, _⟩ := h1 g2
      exact ⟨h', e⟩
    obtain ⟨_, kc⟩ := key tab0 v F hm hF
    obtain ⟨_, h', e⟩ := kc cok0
    rw [isTrueS_spec hB hv] at e
    exact ⟨h', e⟩
theorem sx_walkC {P : Program} {ext orc : List (Nat × SymF)} {exte orce : List (Nat × Sig)} {us : List FuncId} {cf d : Nat} {f : FuncId} {ps : List Par} {l : List Cnd} (U : Nat → Vl → Vl)
    (hm : P.follows .mixedOrders = true) (hus : us.all (funcOk P) = true) (hexte : ∀ p ∈ exte, ExtOne P p.1 p.2) (horce : ∀ p ∈ orce, OrcOne P p.1 p.2)
    (hx : ∀ F ρ, Base F ρ U → ListR F ρ U ext (fun f => seek f exte)) (ho : ∀ F ρ, Base F ρ U → ListR F ρ U orc (fun f => seek f orce)) (h : lawCB P ext orc us cf d f ps l = true)
    {vs : List Value} (hv : fitA ps vs = true) (hE : condsH l (vs.map canonP)) (w : World) : Calls P f vs.toArray w fun e w' => e = .returned (.bool true) ∧ Below w.heap.size w w' := by
  obtain ⟨h1, h2⟩ := fitA_plain hv
  have he := law_runC U (rhoOf vs) (fun F hB => hx F _ hB) (fun F hB => ho F _ hB) h (by rw [rho_fit hv]; exact hE)
  rw [rho_fit hv] at he
  exact fun_law hm hus (ext_list hexte) (orc_list horce) noCon he h1 h2 w (noIn w)
theorem two_ints {k : IntKind} {vs : List Value} (h : fitA [.one (.n k), .one (.n k)] vs = true) : ∃ z y, vs = [.int k z, .int k y] := by
  match vs with
  | [v, u] =>
    have h : (fitP (.one (.n k)) v && (fitP (.one (.n k)) u && true)) = true := h
    rw [Bool.and_true, Bool.and_eq_true] at h
    obtain ⟨z, e⟩ := one_int (k := k) (vs := [v]) (by show (fitP (.one (.n k)) v && true) = true; rw [h.1]; rfl)
    obtain ⟨y, e'⟩ := one_int (k := k) (vs := [u]) (by show (fitP (.one (.n k)) u && true) = true; rw [h.2]; rfl)
    cases e; cases e'
    exact ⟨z, y, rfl⟩
  | [] => cases h
  | [v] =>
    have h : (fitP (.one (.n k)) v && false) = true := h
    rw [Bool.and_false] at h
    cases h
  | v :: u :: x :: r =>
    have h : (fitP (.one (.n k)) v && (fitP (.one (.n k)) u && false)) = true := h
    rw [Bool.and_false, Bool.and_false] at h
    cases h
theorem one_agg {l : List Ty} {vs : List Value} (h : fitA [.agg l] vs = true) : ∃ cs : List Value, vs = [.agg cs.toArray] ∧ fitL l cs = true := by
  match vs with
  | [v] =>
    have h : (fitP (.agg l) v && true) = true := h
    rw [Bool.and_true] at h
    cases v with
    | agg cs => exact ⟨cs.toList, by simp, h⟩
    | _ => cases h
  | [] => cases h
  | v :: u :: r =>
    have h : (fitP (.agg l) v && false) = true := h
    rw [Bool.and_false] at h
    cases h
theorem cons_bool {l : List Ty} {cs : List Value} (h : fitL (.b :: l) cs = true) : ∃ b r, cs = .bool b :: r ∧ fitL l r = true := by
  match cs with
  | [] => cases h
  | v :: r =>
    have h : (fitV .b v && fitL l r) = true := h
    rw [Bool.and_eq_true] at h
    cases v with
    | bool b => exact ⟨b, r, rfl, h.2⟩
    | _ => cases h.1
theorem nil_fit {cs : List Value} (h : fitL [] cs = true) : cs = [] := by
  cases cs with
  | nil => rfl
  | cons _ _ => cases h
end Sx
end
