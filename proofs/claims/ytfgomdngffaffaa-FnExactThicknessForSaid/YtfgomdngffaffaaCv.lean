/-
  Contrasts of layers: program and model answer the same, films and films over backings being told by names. No condition.
-/
import Derived.Test.YtfgomdngffaffaaCu
set_option linter.unusedSectionVars false
set_option linter.unusedVariables false
noncomputable section
namespace Go.Proofs.Ytfgomdngffaffaa
namespace Ct
open Go Go.ChangeShapes Go.WideShapes Go.ChangeAt Go.RowKit Ev Sx

/-! ### names -/
def psO : List Par := [.agg (List.replicate 48 (Ty.f .f32)), .agg (List.replicate 16 (Ty.f .f32))]
def filmL : List Value → List Value
  | [.agg cs] => filC cs.toList
  | _ => filX (fun _ => 0)
def overL : List Value → List Value
  | [.agg cs, .agg ds] => ovC cs.toList ds.toList
  | _ => ovX (fun _ => 0) (fun _ => 0)
theorem filmL_fit (args : List Value) (h : fitA psF args = true) : fitA qsF (filmL args) = true := by
  unfold filmL
  split <;> exact (filX_spec _).1
theorem overL_fit (args : List Value) (h : fitA psO args = true) : fitA qsO (overL args) = true := by
  unfold overL
  split <;> exact (ovX_spec _ _).1
def UC (op : Nat) (z : Vl) : Vl := if 144 ≤ op ∧ op < 148 then UE op z else if 150 ≤ op ∧ op < 199 then valT psF qsF filmL (op - 150) z else if 200 ≤ op ∧ op < 217 then valT psO qsO overL (op - 200) z else .i 0
theorem UC_e {k : Nat} (hk : k < 2) (z : Vl) : UC (146 + k) z = valT psE qsE (endG true) k z := by
  unfold UC
  rw [if_pos ⟨by omega, by omega⟩]
  exact UE_t hk z
theorem UC_f {k : Nat} (hk : k < 49) (z : Vl) : UC (150 + k) z = valT psF qsF filmL k z := by
  unfold UC
  rw [if_neg (by omega), if_pos ⟨by omega, by omega⟩, Nat.add_sub_cancel_left]
theorem UC_o {k : Nat} (hk : k < 17) (z : Vl) : UC (200 + k) z = valT psO qsO overL k z := by
  unfold UC
  rw [if_neg (by omega), if_neg (by omega), if_pos ⟨by omega, by omega⟩, Nat.add_sub_cancel_left]
theorem filU_ok {F : Tab} {ρ : Nat → Int} (hB : Base F ρ UC) : SymOk F ρ UC (sigT psF filmL) (uV 150 psF qsF) :=
  uV_ok hB (uT_ok hB (fun k hk => op_any (by omega)) (fun k hk z => UC_f hk z) filmL_fit)
theorem ovU_ok {F : Tab} {ρ : Nat → Int} (hB : Base F ρ UC) : SymOk F ρ UC (sigT psO overL) (uV 200 psO qsO) :=
  uV_ok hB (uT_ok hB (fun k hk => op_any (by omega)) (fun k hk z => UC_o hk z) overL_fit)
theorem geU_ok {F : Tab} {ρ : Nat → Int} (hB : Base F ρ UC) : SymOk F ρ UC (sigT psE (endG true)) (uV 146 psE qsE) :=
  uV_ok hB (uT_ok hB (fun k hk => op_any (by omega)) (fun k hk z => UC_e hk z) (endG_fit true))
def endU : SymF := fun pc args => match args with
  | [x, .lit (.bool true)] => uV 146 psE qsE pc [x]
  | _ => non
theorem endU_ok {F : Tab} {ρ : Nat → Int} (hB : Base F ρ UC) : SymOk F ρ UC endS endU := fun pc args => by
  unfold endU
  split
  · rename_i x
    refine (geU_ok hB pc [x]).mono fun v h hp => ?_
    rw [cvl_cons, cvl_cons, cv_lit]
    exact sig_end (h hp)
  · exact Spec.non
/-! ### the layer of the run -/
def eqV2 : List SV → List SV → Bool
  | [], [] => true
  | .f .f32 a :: r, .f .f32 b :: s => Nat.beq a b && eqV2 r s
  | _, _ => false
theorem eqV2_eq : ∀ {a b : List SV}, eqV2 a b = true → a = b
  | [], [], _ => rfl
  | [], _ :: _, h => by simp [eqV2] at h
  | _ :: _, [], h => by simp [eqV2] at h
  | x :: r, y :: s, h => by
    unfold eqV2 at h
    split at h
    · rename_i h1 h2; cases h1
    · rename_i a r' b s' h1 h2
      cases h1; cases h2
      rw [Bool.and_eq_true] at h
      rw [eqV2_eq h.2, Nat.eq_of_beq_eq_true h.1]
    · cases h
theorem LS_row {F : Tab} {U : Nat → Vl → Vl} {r : List Value} (hr : isLn 33 r = true) (hraw : ∀ i, 2 ≤ i → i < 33 + ([] : List (IntKind × Nat)).length + 2 → raw F (rho (fN r)) U i = gW (rho (fN r)) 33 [] i) : cvl F (rho (fN r)) U (LSn 33) = r := by
  refine Eq.trans ?_ ((conc33 (fN r)).trans (rowL_of hr).symm)
  refine List.map_congr_left fun x hx => ?_
  obtain ⟨j, hj, rfl⟩ := List.mem_map.1 hx
  have hj := List.mem_range.1 hj
  show conc (raw F (rho (fN r)) U) (.f .f32 (j + 2)) = conc (gW (rho (fN r)) 33 []) (.f .f32 (j + 2))
  simp only [conc]
  rw [hraw (j + 2) (by omega) (by simp; omega)]
def filmO : Sig
  | [.agg cs] => some (oneOr (filC cs.toList), isLn 33 cs.toList && okC cs.toList)
  | _ => none
def filmSy : SymF := fun pc args => match args with
  | [.agg cs] => bif eqV2 cs (LSn 33) then uV 150 psF qsF pc [.agg cs] else non
  | _ => non
theorem sig_film {r : List Value} {u : Value} (h : sigT psF filmL [.agg r.toArray] = some (u, true)) (hr : isLn 33 r = true) : u = oneOr (filC r) := by
  unfold sigT at h
  have hf : fitA psF [.agg r.toArray] = true := by
    show (isLn 33 r && true) = true
    rw [hr]; rfl
  rw [hf, cond_true, Option.some.injEq, Prod.mk.injEq] at h
  exact h.1.symm
theorem filmSy_ok {F : Tab} {r : List Value} (hr : isLn 33 r = true) (hok : okC r = true) (hB : Base F (rho (fN r)) UC) (hraw : ∀ i, 2 ≤ i → i < 33 + ([] : List (IntKind × Nat)).length + 2 → raw F (rho (fN r)) UC i = gW (rho (fN r)) 33 [] i) : SymOk F (rho (fN r)) UC filmO filmSy := fun pc args => by
  unfold filmSy
  split
  · rename_i cs
    refine Spec.bif (fun he => ?_) (fun _ => Spec.non)
    have := eqV2_eq he
    subst this
    refine (filU_ok hB pc [.agg (LSn 33)]).mono fun v h hp => ?_
    have h := h hp
    rw [cvl_cons, cv_agg, LS_row hr hraw] at h ⊢
    show some (oneOr (filC r), isLn 33 r && okC r) = some (cv F (rho (fN r)) UC v, true)
    rw [hr, hok, sig_film h hr]; rfl
  · exact Spec.non
/-! ### contracts that read memory -/
def filmM : ConF := fun args h => match args with
  | [.pointer (some ⟨b, 0, none⟩)] => match h.getD b none with
    | some r => some (oneOr (filC r), [], isLn 33 r && okC r)
    | none => none
  | _ => none
def overM : ConF := fun args h => match args with
  | [.pointer (some ⟨b, 0, none⟩), .agg ys] => match h.getD b none with
    | some r => some (oneOr (ovC r ys.toList), [], isLn 48 r && isLn 16 ys.toList)
    | none => none
  | _ => none
def conC (f : FuncId) : Option ConF :=
  bif Nat.beq f 39 then some filmM else bif Nat.beq f 59 then some overM else none
theorem ptr_inv {ι : Frn} {μ : Nat → Option Nat} {b b' : Nat} {y : Value} (h : @VR ι μ (.pointer (some ⟨b, 0, none⟩)) y) (hb : μ b = some b') : y = .pointer (some ⟨b', 0, none⟩) := by
  cases h with
  | ptr b o b2 hm =>
    rw [hb] at hm
    cases hm; rfl
theorem con1 {ι : Frn} {μ : Nat → Option Nat} {x : Value} {ys : List Value} (h : @VRL ι μ [x] ys) : ∃ y, ys = [y] ∧ @VR ι μ x y := by
  match ys, h with
  | [], h => exact absurd h.1 (by simp)
  | [y], h => exact ⟨y, rfl, @VRL.head ι _ _ _ _ _ h⟩
  | _ :: _ :: _, h => exact absurd h.1 (by simp)
theorem con2 {ι : Frn} {μ : Nat → Option Nat} {x x2 : Value} {ys : List Value} (h : @VRL ι μ [x, x2] ys) : ∃ y y2, ys = [y, y2] ∧ @VR ι μ x y ∧ @VR ι μ x2 y2 := by
  match ys, h with
  | [], h => exact absurd h.1 (by simp)
  | [_], h => exact absurd h.1 (by simp)
  | [y, y2], h => exact ⟨y, y2, rfl, @VRL.head ι _ _ _ _ _ h, @VRL.head ι _ _ _ _ _ (@VRL.tail ι _ _ _ _ _ h)⟩
  | _ :: _ :: _ :: _, h => exact absurd h.1 (by simp)
theorem fin {ι : Frn} {μ : Nat → Option Nat} {h : Heap} {w : World} {B : Nat} {f : Nat} {cargs : List Value} {v : Value} (hh : @HeapR ι μ h w B) (hB : B ≤ w.heap.size)
    (hc : Calls Try.prog f cargs.toArray w fun e w' => ∃ u, e = .returned u ∧ @VR ι μ v u ∧ Below w.heap.size w w') :
    Calls Try.prog f cargs.toArray w fun e w' => ∃ v' μ', e = .returned v' ∧ Sub μ μ' ∧ @VR ι μ' v v' ∧ @HeapR ι μ' (h ++ ([] : List (List Value)).map some) w' B ∧ Below B w w' := by
  refine hc.mono fun e w' hx => ?_
  obtain ⟨u, rfl, hu, hbl⟩ := hx
  refine ⟨u, μ, rfl, Sub.refl μ, hu, ?_, hbl.mono hB⟩
  rw [List.map_nil, List.append_nil]
  exact @HeapR.keep ι _ _ _ _ _ hh hB hbl
theorem filmM_ok {ι : Frn} {args : List Value} {h : Heap} {v : Value} {rows : List (List Value)} (he : filmM args h = some (v, rows, true)) {μ : Nat → Option Nat} {cargs : List Value} {w : World} {B : Nat} (ha : @VRL ι μ args cargs) (hh : @HeapR ι μ h w B) (hB : B ≤ w.heap.size) :
    Calls Try.prog 39 cargs.toArray w fun e w' => ∃ v' μ', e = .returned v' ∧ Sub μ μ' ∧ @VR ι μ' v v' ∧ @HeapR ι μ' (h ++ rows.map some) w' B ∧ Below B w w' := by
  unfold filmM at he
  split at he
  · rename_i b
    split at he
    · rename_i r hr
      simp only [Option.some.injEq, Prod.mk.injEq, Bool.and_eq_true] at he
      obtain ⟨rfl, rfl, hk, hok⟩ := he
      obtain ⟨b', hb, hc⟩ := film_at hh hr hk hok
      obtain ⟨y, rfl, hy⟩ := con1 ha
      rw [ptr_inv hy hb]
      exact fin hh hB hc
    · cases he
  · cases he
theorem overM_ok {ι : Frn} {args : List Value} {h : Heap} {v : Value} {rows : List (List Value)} (he : overM args h = some (v, rows, true)) {μ : Nat → Option Nat} {cargs : List Value} {w : World} {B : Nat} (ha : @VRL ι μ args cargs) (hh : @HeapR ι μ h w B) (hB : B ≤ w.heap.size) :
    Calls Try.prog 59 cargs.toArray w fun e w' => ∃ v' μ', e = .returned v' ∧ Sub μ μ' ∧ @VR ι μ' v v' ∧ @HeapR ι μ' (h ++ rows.map some) w' B ∧ Below B w w' := by
  unfold overM at he
  split at he
  · rename_i b ys
    split at he
    · rename_i r hr
      simp only [Option.some.injEq, Prod.mk.injEq, Bool.and_eq_true] at he
      obtain ⟨rfl, rfl, hk, hs⟩ := he
      obtain ⟨y, y2, rfl, hy, hy2⟩ := con2 ha
      obtain ⟨b', hb, hc⟩ := over_at (s := ys.toList) (y := y2) hh hr hk hs hy2
      rw [ptr_inv hy hb]
      exact fin hh hB hc
    · cases he
  · cases he
theorem conC_ok {base : Nat} : @ConOk (frnOf base [] conC) Try.prog := fun f g hf => by
  have hf : conC f = some g := hf
  unfold conC at hf
  cases h1 : Nat.beq f 39 with
  | true =>
    rw [h1, cond_true, Option.some.injEq] at hf
    have hfe := Nat.eq_of_beq_eq_true h1
    subst hf hfe
    exact ⟨by kernel_rfl, fun args h v rows he μ cargs w B ha hh hB => filmM_ok he ha hh hB⟩
  | false =>
  rw [h1, cond_false] at hf
  cases h3 : Nat.beq f 59 with
  | true =>
    rw [h3, cond_true, Option.some.injEq] at hf
    have hfe := Nat.eq_of_beq_eq_true h3
    subst hf hfe
    exact ⟨by kernel_rfl, fun args h v rows he μ cargs w B ha hh hB => overM_ok he ha hh hB⟩
  | false => rw [h3] at hf; cases hf
/-! ### contracts of values -/
theorem form2_plain {n : Nat} {t : Ty} {vs : List Value} (h : fitA [.agg (List.replicate n (Ty.f .f32)), .one t] vs = true) : plainB (oneOr vs) = true := by
  obtain ⟨cs, x, rfl, h1, h2⟩ := form2 h
  have e1 : cs.toList.all flatB = true := by
    have := isLn_bare h1
    rw [List.all_eq_true] at this ⊢
    intro v hv
    have := this v hv
    cases v <;> first | rfl | cases this
  show ((cs.toList.all flatB) && _) = true
  rw [e1]
  cases x <;> first | rfl | cases h2
theorem ln_plain {n : Nat} {cs : Array Value} (h : isLn n cs.toList = true) : plainB (.agg cs) = true := by
  have := isLn_bare h
  show cs.toList.all flatB = true
  rw [List.all_eq_true] at this ⊢
  intro v hv
  have := this v hv
  cases v <;> first | rfl | cases this
theorem filmO_bare : BareSig filmO := fun args v he => by
  unfold filmO at he
  split at he
  · rename_i cs
    simp only [Option.some.injEq, Prod.mk.injEq, Bool.and_eq_true] at he
    obtain ⟨rfl, hk, _⟩ := he
    have hb : bareP (.agg cs) = true := isLn_bare hk
    refine ⟨?_, form2_bare (filX_spec _).1⟩
    rw [List.all_cons, hb]; rfl
  · cases he
theorem filmO_one {ι : Frn} : @OrcOne ι Try.prog 50 filmO := by
  refine orc_any (?_ : @OrcOne noFrn Try.prog 50 filmO) filmO_bare
  refine orc_one (us := Fg.us) (cf := 300) (d := 30) mixed usG_ok (l0 := orcG Try.prog) (lx := extX) extXOk orcGOk (by kernel_rfl) fun args v k he hk hx => ?_
  unfold filmO at he
  split at he
  · rename_i cs
    simp only [Option.some.injEq, Prod.mk.injEq] at he
    obtain ⟨rfl, rfl⟩ := he
    rw [Bool.and_eq_true] at hk
    have e := ((filX_spec (fN cs.toList)).2 hk.2).2
    rw [← arr_of hk.1] at e
    refine ⟨?_, form2_plain (filX_spec _).1, e⟩
    rw [List.all_cons, ln_plain hk.1]; rfl
  · cases he
theorem psO_form {args : List Value} (h : fitA psO args = true) : ∃ cs ds : Array Value, args = [.agg cs, .agg ds] ∧ isLn 48 cs.toList = true ∧ isLn 16 ds.toList = true := by
  match args, h with
  | [v, u], h =>
    have h : (fitP (.agg (List.replicate 48 (Ty.f .f32))) v && (fitP (.agg (List.replicate 16 (Ty.f .f32))) u && true)) = true := h
    rw [Bool.and_eq_true, Bool.and_eq_true] at h
    cases v with
    | agg cs =>
      cases u with
      | agg ds => exact ⟨cs, ds, rfl, h.1, h.2.1⟩
      | _ => cases h.2.1
    | _ => cases h.1
  | [], h => cases h
  | [_], h => exact absurd h (by simp [psO, fitA])
  | _ :: _ :: _ :: _, h => exact absurd h (by simp [psO, fitA])
theorem overO_bare : BareSig (sigT psO overL) := fun args v he => by
  unfold sigT at he
  cases hfit : fitA psO args with
  | false => rw [hfit] at he; cases he
  | true =>
    rw [hfit, cond_true, Option.some.injEq, Prod.mk.injEq] at he
    obtain ⟨cs, ds, rfl, h1, h2⟩ := psO_form hfit
    obtain ⟨rfl, _⟩ := he
    have b1 : bareP (.agg cs) = true := isLn_bare h1
    have b2 : bareP (.agg ds) = true := isLn_bare h2
    refine ⟨?_, form2_bare (ovX_spec _ _).1⟩
    rw [List.all_cons, List.all_cons, b1, b2]; rfl
theorem overO_one {ι : Frn} : @OrcOne ι Try.prog 51 (sigT psO overL) := by
  refine orc_any (?_ : @OrcOne noFrn Try.prog 51 (sigT psO overL)) overO_bare
  refine orc_one (us := Fo.us) (cf := 300) (d := 30) mixed usO_ok (l0 := orcG Try.prog) (lx := extX) extXOk orcGOk (by kernel_rfl) fun args v k he hk hx => ?_
  unfold sigT at he
  cases hfit : fitA psO args with
  | false => rw [hfit] at he; cases he
  | true =>
    rw [hfit, cond_true, Option.some.injEq, Prod.mk.injEq] at he
    obtain ⟨cs, ds, rfl, h1, h2⟩ := psO_form hfit
    obtain ⟨rfl, _⟩ := he
    have e := (ovX_spec (fN cs.toList) (fN ds.toList)).2
    rw [← arr_of h1, ← arr_of h2] at e
    refine ⟨?_, form2_plain (ovX_spec _ _).1, e⟩
    rw [List.all_cons, List.all_cons, ln_plain h1, ln_plain h2]; rfl
def orcC : List (Nat × Sig) := (50, filmO) :: (51, sigT psO overL) :: (18, sigT psE (endG true)) :: (34, endS) :: orcKc
theorem orcCOk {ι : Frn} : ∀ p ∈ orcC, @OrcOne ι Try.prog p.1 p.2 := all_cons filmO_one <| all_cons overO_one <| all_cons geI_one <| all_cons end_one orcKcOk
def symC : List (Nat × SymF) := (50, filmSy) :: (51, uV 200 psO qsO) :: (18, uV 146 psE qsE) :: (34, endU) :: symKc
theorem symCR {F : Tab} {r : List Value} (hr : isLn 33 r = true) (hok : okC r = true) (hB : Base F (rho (fN r)) UC) (hraw : ∀ i, 2 ≤ i → i < 33 + ([] : List (IntKind × Nat)).length + 2 → raw F (rho (fN r)) UC i = gW (rho (fN r)) 33 [] i) : ListR F (rho (fN r)) UC symC (fun f => seek f orcC) :=
  ListR.cons (filmSy_ok hr hok hB hraw) <| ListR.cons (ovU_ok hB) <| ListR.cons (geU_ok hB) <| ListR.cons (endU_ok hB) <| symKcR F (rho (fN r)) hB
/-! ### the same in runs -/
def filmCon (pc : List (Nat × Bool)) (args : List SV) (h : HeapS) : M SV := match args with
  | [.ptr b 0] => match h.getD b none with
    | some cs => bif eqV2 cs (LSn 33) then uV 150 psF qsF pc [.agg cs] else non
    | none => non
  | _ => non
def overCon (pc : List (Nat × Bool)) (args : List SV) (h : HeapS) : M SV := match args with
  | [.ptr b 0, .agg ds] => match h.getD b none with
    | some cs => uV 200 psO qsO pc [.agg cs, .agg ds]
    | none => non
  | _ => non
theorem overM_at {b : Nat} {ys r : List Value} {h : Heap} (hr : h.getD b none = some r) : overM [.pointer (some ⟨b, 0, none⟩), .agg ys.toArray] h = some (oneOr (ovC r ys), [], isLn 48 r && isLn 16 ys) := by
  unfold overM
  simp only [hr]
abbrev gC : SFrn := ⟨fun _ => [], fun f => bif Nat.beq f 39 then some filmCon else bif Nat.beq f 59 then some overCon else none⟩
theorem gC_ok {F : Tab} {r : List Value} {base : Nat} (hr : isLn 33 r = true) (hok : okC r = true) (hB : Base F (rho (fN r)) UC) (hraw : ∀ i, 2 ≤ i → i < 33 + ([] : List (IntKind × Nat)).length + 2 → raw F (rho (fN r)) UC i = gW (rho (fN r)) 33 [] i) :
    ∀ f g, gC.con f = some g → ∃ G, (frnOf base [] conC).con f = some G ∧ ∀ pc args h, Sx.Spec F (g pc args h) (fun v => pcH F (rho (fN r)) UC pc → G (cvl F (rho (fN r)) UC args) (hpc F (rho (fN r)) UC h) = some (cv F (rho (fN r)) UC v, [], true)) := fun f g hf => by
  have hf : (bif Nat.beq f 39 then some filmCon else bif Nat.beq f 59 then some overCon else none) = some g := hf
  have hG : (frnOf base [] conC).con f = conC f := rfl
  rw [hG]
  unfold conC
  cases h1 : Nat.beq f 39 with
  | true =>
    rw [h1, cond_true, Option.some.injEq] at hf
    subst hf
    refine ⟨filmM, rfl, fun pc args h => ?_⟩
    unfold filmCon
    split
    · rename_i b
      split
      · rename_i cs hcs
        refine Spec.bif (fun he => ?_) (fun _ => Spec.non)
        have := eqV2_eq he
        subst this
        refine (filU_ok hB pc [.agg (LSn 33)]).mono fun v h2 hp => ?_
        have h2 := h2 hp
        rw [cvl_cons, cv_agg, LS_row hr hraw] at h2
        rw [cvl_cons, cv_ptr]
        show (match (hpc F (rho (fN r)) UC h).getD b none with | some r => some (oneOr (filC r), [], isLn 33 r && okC r) | none => none) = _
        rw [row_hpc, hcs]
        show some (oneOr (filC (cvl F (rho (fN r)) UC (LSn 33))), ([] : List (List Value)), isLn 33 (cvl F (rho (fN r)) UC (LSn 33)) && okC (cvl F (rho (fN r)) UC (LSn 33))) = _
        rw [LS_row hr hraw, hr, hok, sig_film h2 hr]; rfl
      · exact Spec.non
    · exact Spec.non
  | false =>
  rw [h1, cond_false] at hf
  cases h3 : Nat.beq f 59 with
  | true =>
    rw [h3, cond_true, Option.some.injEq] at hf
    subst hf
    refine ⟨overM, rfl, fun pc args h => ?_⟩
    unfold overCon
    split
    · rename_i b ds
      split
      · rename_i cs hcs
        refine (ovU_ok hB pc [.agg cs, .agg ds]).mono fun v h2 hp => ?_
        have h2 := h2 hp
        rw [cvl_cons, cvl_cons, cv_agg, cv_agg] at h2
        rw [cvl_cons, cvl_cons, cv_ptr, cv_agg]
        refine (overM_at (r := cvl F (rho (fN r)) UC cs) (ys := cvl F (rho (fN r)) UC ds) (b := b) (by rw [row_hpc, hcs]; rfl)).trans ?_
        have h2 : sigT psO overL [.agg (cvl F (rho (fN r)) UC cs).toArray, .agg (cvl F (rho (fN r)) UC ds).toArray] = some (cv F (rho (fN r)) UC v, true) := h2
        unfold sigT at h2
        cases hfit : fitA psO [.agg (cvl F (rho (fN r)) UC cs).toArray, .agg (cvl F (rho (fN r)) UC ds).toArray] with
        | false => rw [hfit] at h2; cases h2
        | true =>
          rw [hfit, cond_true, Option.some.injEq, Prod.mk.injEq] at h2
          obtain ⟨cs', ds', e, k1, k2⟩ := psO_form hfit
          injection e with e1 e2
          injection e2 with e2 _
          injection e1 with e1
          injection e2 with e2
          subst e1 e2
          have h3 : cv F (rho (fN r)) UC v = oneOr (ovC (cvl F (rho (fN r)) UC cs) (cvl F (rho (fN r)) UC ds)) := h2.1.symm
          have k1 : isLn 48 (cvl F (rho (fN r)) UC cs) = true := k1
          have k2 : isLn 16 (cvl F (rho (fN r)) UC ds) = true := k2
          rw [k1, k2, h3, Bool.and_true]
      · exact Spec.non
    · exact Spec.non
  | false => rw [h3] at hf; cases hf
def jA : Job := ⟨8, [.agg (LSn 33)], []⟩
def jB : Job := ⟨10, [.agg (LSn 33)], []⟩
def usC : List Nat := [8, 10, 25, 26, 27, 28, 29, 30, 47, 48, 49, 58]
def usN : List Nat := [8, 10, 25, 26, 27, 28, 29, 30, 47, 48, 49, 50, 51, 58, 39, 59, 41, 61, 63, 64, 55, 56, 69, 33, 73]
end Ct
end Go.Proofs.Ytfgomdngffaffaa
end
