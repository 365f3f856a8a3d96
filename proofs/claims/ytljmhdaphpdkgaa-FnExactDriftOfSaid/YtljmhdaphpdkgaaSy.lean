/-
  The symbolic executor goes on: laws over what came in ('law_runF'), pairs of runs ('pair2_run'). No condition; nothing of one program stands here.
-/
import Derived.Test.YtljmhdaphpdkgaaSx
set_option linter.unusedSectionVars false
noncomputable section
namespace Sx
open Go Ev Go.RowKit

/-! ### laws over what came in -/
/-- the variables are the table's first nodes -/
def mkVars : Nat → Nat → M Unit
  | 0, _ => ret ()
  | n + 1, j => bnd (mkP 2 j) fun _ => mkVars n (j + 1)
def varsOk (F : Tab) : Nat → Bool
  | 0 => true
  | j + 1 => (Nat.blt (j + 2) F.n && Nat.beq (nodeAt F (j + 2)) (2 + 256 * j)) && varsOk F j
def gOf (ρ : Nat → Int) (i : Nat) : Vl := if i < 2 then .i i else .i (ρ (i - 2))
def inC (m : Nat) : SV → Bool
  | .lit _ => true
  | .f _ i => Nat.ble 2 i && Nat.blt i (m + 2)
  | .n _ i => Nat.ble 2 i && Nat.blt i (m + 2)
  | .s i => Nat.ble 2 i && Nat.blt i (m + 2)
  | _ => false
def inR (m : Nat) : SV → Bool
  | .agg l => l.all (inC m)
  | x => inC m x
def lawMF [SFrn] (P : Program) (ext orc : List (Nat × SymF)) (us : List FuncId) (cf d : Nat) (f : FuncId) (m : Nat) (args : List SV) (l : List Cnd) : M SV :=
  bnd (mkVars m 0) fun _ => bnd (condsS l args) fun q => bnd (funS P ext orc us cf d .no q.2 f q.1 []) fun r => ret r.1
def okLawF (m : Nat) : Option (SV × Tab) → Bool
  | some (v, t) => okLaw (some (v, t)) && varsOk t m
  | none => false
def lawFB [SFrn] (P : Program) (ext orc : List (Nat × SymF)) (us : List FuncId) (cf d : Nat) (f : FuncId) (m : Nat) (args : List SV) (l : List Cnd) : Bool :=
  args.all (inR m) && okLawF m (lawMF P ext orc us cf d f m args l tab0)
section
variable {F : Tab} {ρ : Nat → Int} {U : Nat → Vl → Vl}
theorem mkVars_spec : ∀ (n j : Nat), Spec F (mkVars n j) (fun _ => True)
  | 0, _ => Spec.ret trivial
  | n + 1, j => Spec.bnd (mkP_spec (ρ := fun _ => 0) (U := fun _ _ => .i 0) (by decide)) fun _ => (mkVars_spec n (j + 1)).mono fun _ _ _ => trivial
theorem vars_raw (hF : Le F F) : ∀ {m : Nat}, varsOk F m = true → ∀ j, j < m → raw F ρ U (j + 2) = .i (ρ j)
  | 0, _, j, h => absurd h (Nat.not_lt_zero _)
  | m + 1, hv, j, h => by
    rw [varsOk, Bool.and_eq_true, Bool.and_eq_true] at hv
    by_cases e : j = m
    · subst e
      rw [raw_at hF (bltT hv.1.1), beqT hv.1.2]
      unfold nodeVal
      have h1 : opOf (2 + 256 * j) = 2 := by show (2 + 256 * j) % 256 = 2; omega
      have h2 : pOf (2 + 256 * j) = j := by show (2 + 256 * j) >>> 8 = j; rw [Nat.shiftRight_eq_div_pow]; omega
      rw [h1, h2]; rfl
    · exact vars_raw hF hv.2 j (by omega)
theorem inC_conc {m : Nat} (hr : ∀ j, j < m → raw F ρ U (j + 2) = .i (ρ j)) {x : SV} (h : inC m x = true) : cv F ρ U x = conc (gOf ρ) x := by
  have key : ∀ i, (Nat.ble 2 i && Nat.blt i (m + 2)) = true → raw F ρ U i = gOf ρ i := fun i hi => by
    rw [Bool.and_eq_true] at hi
    have h1 : 2 ≤ i := Nat.le_of_ble_eq_true hi.1
    have h2 := bltT hi.2
    unfold gOf
    rw [if_neg (by omega)]
    have := hr (i - 2) (by omega)
    rwa [show i - 2 + 2 = i by omega] at this
  cases x with
  | lit v => simp only [cv, conc]
  | f k i => simp only [cv, conc, key i h]
  | n k i => simp only [cv, conc, key i h]
  | s i => simp only [cv, conc, key i h]
  | _ => cases h
theorem inCs_conc {m : Nat} (hr : ∀ j, j < m → raw F ρ U (j + 2) = .i (ρ j)) {l : List SV} (h : l.all (inC m) = true) : cvl F ρ U l = l.map (conc (gOf ρ)) :=
  List.map_congr_left fun x hx => inC_conc hr (List.all_eq_true.1 h x hx)
theorem inR_conc {m : Nat} (hr : ∀ j, j < m → raw F ρ U (j + 2) = .i (ρ j)) {x : SV} (h : inR m x = true) : cv F ρ U x = conc (gOf ρ) x := by
  cases x with
  | agg l =>
    rw [cv_agg, inCs_conc hr h]
    simp only [conc, concL_map]
  | lit v => exact inC_conc hr h
  | f k i => exact inC_conc hr h
  | n k i => exact inC_conc hr h
  | s i => exact inC_conc hr h
  | _ => cases h
theorem inRs_conc {m : Nat} (hr : ∀ j, j < m → raw F ρ U (j + 2) = .i (ρ j)) {l : List SV} (h : l.all (inR m) = true) : cvl F ρ U l = l.map (conc (gOf ρ)) :=
  List.map_congr_left fun x hx => inR_conc hr (List.all_eq_true.1 h x hx)
end
theorem law_runF [Frn] [SFrn] {P : Program} {ext orc : List (Nat × SymF)} {exte orce : Orc} {us : List FuncId} {cf d : Nat} {f : FuncId} {m : Nat} {args : List SV} {l : List Cnd} (U : Nat → Vl → Vl) (ρ : Nat → Int)
    (hx : ∀ F, Base F ρ U → ListR F ρ U ext exte) (ho : ∀ F, Base F ρ U → ListR F ρ U orc orce) (hrow : ∀ k, Frn.row k = (SFrn.row k).map (conc (gOf ρ))) (hin : ∀ k, (SFrn.row k).all (inC m) = true)
    (hcn : ∀ F, Base F ρ U → ∀ f g, SFrn.con f = some g → ∃ G, Frn.con f = some G ∧ ∀ pc args h, Spec F (g pc args h) (fun v => pcH F ρ U pc → G (cvl F ρ U args) (hpc F ρ U h) = some (cv F ρ U v, [], true)))
    (h : lawFB P ext orc us cf d f m args l = true) (hE : condsH l (args.map (conc (gOf ρ)))) :
    ∃ h', funD P exte orce us cf d f (args.map (conc (gOf ρ))) [] = some (.bool true, h', true) := by
  unfold lawFB at h
  rw [Bool.and_eq_true] at h
  obtain ⟨hargs, h⟩ := h
  cases hm : lawMF P ext orc us cf d f m args l tab0 with
  | none => rw [hm] at h; cases h
  | some r =>
    obtain ⟨v, F⟩ := r
    rw [hm] at h
    have h : ((isTrueS v && (wfB F F.n && (Nat.blt 1 F.n && (Nat.beq (nodeAt F 0) 0 && Nat.beq (nodeAt F 1) 256)))) && varsOk F m) = true := h
    simp only [Bool.and_eq_true] at h
    obtain ⟨⟨hv, hw, hn, b0, b1⟩, hvo⟩ := h
    have hF := le_self hw
    have hn := bltT hn
    have hB : Base F ρ U := by
      refine ⟨?_, ?_⟩
      · rw [raw_at hF (i := 0) (by omega), beqT b0]; rfl
      · rw [raw_at hF (i := 1) hn, beqT b1]; rfl
    have hr : ∀ j, j < m → raw F ρ U (j + 2) = .i (ρ j) := vars_raw hF hvo
    have hfr : FrnR F ρ U := ⟨fun k => by rw [hrow k, inCs_conc hr (hin k)], hcn F hB⟩
    have ha : cvl F ρ U args = args.map (conc (gOf ρ)) := inRs_conc hr hargs
    have key : Spec F (lawMF P ext orc us cf d f m args l) (fun v => ∃ h', funD P exte orce us cf d f (args.map (conc (gOf ρ))) [] = some (cv F ρ U v, h', true)) := by
      unfold lawMF
      refine Spec.bnd (mkVars_spec m 0) fun _ => Spec.bnd (condsS_ok hB l args) fun q => Spec.bnd (funS_spec hB hfr (hx F hB) (ho F hB) d .no q.2 f q.1 []) fun r => Spec.ret fun h1 h2 _ => ?_
      rw [ha] at h2
      obtain ⟨g1, g2⟩ := h2 hE
      rw [g1] at h1
      obtain ⟨h', e, _⟩ := h1 g2
      exact ⟨h', e⟩
    obtain ⟨_, kc⟩ := key tab0 v F hm hF
    obtain ⟨_, h', e⟩ := kc cok0
    rw [isTrueS_spec hB hv] at e
    exact ⟨h', e⟩
/-! ### texts as numbers -/
theorem decF_enc : ∀ (l : List UInt8) (k : Nat), encT l ≤ k → decF k (encT l) = l
  | [], 0, _ => rfl
  | [], k + 1, _ => rfl
  | b :: r, 0, h => by
    exfalso
    have : encT (b :: r) = encT r * 257 + (b.toNat + 1) := rfl
    omega
  | b :: r, k + 1, h => by
    have e : encT (b :: r) = encT r * 257 + (b.toNat + 1) := rfl
    have hb : b.toNat < 256 := b.toNat_lt
    have h0 : Nat.beq (encT (b :: r)) 0 = false := by
      cases hq : Nat.beq (encT (b :: r)) 0 with
      | false => rfl
      | true => have := Nat.eq_of_beq_eq_true hq; omega
    have h1 : encT (b :: r) % 257 - 1 = b.toNat := by omega
    have h2 : encT (b :: r) / 257 = encT r := by omega
    unfold decF
    rw [h0, cond_false, h1, h2, decF_enc r k (by omega)]
    congr 1
    exact UInt8.ofNat_toNat
def encS (s : ByteArray) : Int := (encT s.data.toList : Nat)
theorem strOf_enc (s : ByteArray) : strOf (encS s) = s := by
  unfold strOf encS
  rw [Int.toNat_natCast, decF_enc _ _ (Nat.le_refl _)]

/-! ### conditions by calls -/
/-- an operand of a call ahead of the law: an argument of the law, or what an earlier call answered -/
inductive Opd where
  | a (k : Nat)
  | r (j : Nat)
def opdL {α : Type} (args res : List α) : List Opd → Option (List α)
  | [] => some []
  | .a k :: l => match args[k]? with
    | some v => match opdL args res l with
      | some m => some (v :: m)
      | none => none
    | none => none
  | .r j :: l => match res[j]? with
    | some v => match opdL args res l with
      | some m => some (v :: m)
      | none => none
    | none => none
theorem opdL_map {α β : Type} (g : α → β) {args res : List α} : ∀ {l : List Opd} {m : List α}, opdL args res l = some m → opdL (args.map g) (res.map g) l = some (m.map g)
  | [], m, h => by cases h; rfl
  | .a k :: l, m, h => by
    unfold opdL at h ⊢
    rw [List.getElem?_map]
    split at h
    · rename_i v hv
      split at h
      · rename_i m' hm
        cases h
        rw [hv, Option.map_some, opdL_map g hm]
        rfl
      · cases h
    · cases h
  | .r j :: l, m, h => by
    unfold opdL at h ⊢
    rw [List.getElem?_map]
    split at h
    · rename_i v hv
      split at h
      · rename_i m' hm
        cases h
        rw [hv, Option.map_some, opdL_map g hm]
        rfl
      · cases h
    · cases h
abbrev Steps := List (FuncId × List Opd)
def stepsS [SFrn] (P : Program) (ext orc : List (Nat × SymF)) (us : List FuncId) (cf d : Nat) (args : List SV) : Steps → List SV → HeapS → M (List SV)
  | [], res, _ => ret res
  | (f, l) :: r, res, h => bnd (opt (opdL args res l)) fun as => bnd (funS P ext orc us cf d .full [] f as h) fun q => stepsS P ext orc us cf d args r (res ++ [q.1]) q.2
def stepsD [Frn] (P : Program) (ext orc : Orc) (us : List FuncId) (cf d : Nat) (args : List Value) : Steps → List Value → Heap → Option (List Value)
  | [], res, _ => some res
  | (f, l) :: r, res, h => match opdL args res l with
    | some as => match funD P ext orc us cf d f as h with
      | some (v, h', true) => stepsD P ext orc us cf d args r (res ++ [v]) h'
      | _ => none
    | none => none
theorem stepsS_spec [Frn] [SFrn] {F : Tab} {ρ : Nat → Int} {U : Nat → Vl → Vl} (hB : Base F ρ U) (hfr : FrnR F ρ U) {P : Program} {ext orc : List (Nat × SymF)} {exte orce : Orc} {us : List FuncId} {cf d : Nat} (hx : ListR F ρ U ext exte) (ho : ListR F ρ U orc orce) {args : List SV} :
    ∀ (s : Steps) (res : List SV) (h : HeapS), Spec F (stepsS P ext orc us cf d args s res h) (fun q => stepsD P exte orce us cf d (cvl F ρ U args) s (cvl F ρ U res) (hpc F ρ U h) = some (cvl F ρ U q))
  | [], res, h => Spec.ret rfl
  | (f, l) :: r, res, h => by
    unfold stepsS
    refine Spec.bnd Spec.opt fun as => Spec.bnd (funS_spec hB hfr hx ho d .full [] f as h) fun q => (stepsS_spec hB hfr hx ho r (res ++ [q.1]) q.2).mono fun z h1 h2 h3 => ?_
    obtain ⟨h', e1, e2⟩ := h2 (fun _ hh => by cases hh)
    have e2 : h' = hpc F ρ U q.2 := e2
    unfold stepsD
    rw [show opdL (cvl F ρ U args) (cvl F ρ U res) l = some (cvl F ρ U as) from opdL_map _ h3]
    dsimp only
    rw [e1, e2]
    dsimp only
    have : cvl F ρ U res ++ [cv F ρ U q.1] = cvl F ρ U (res ++ [q.1]) := by unfold cvl; rw [List.map_append]; rfl
    rw [this]
    exact h1
/-- the last answer, as a decision -/
def lastB (want : Bool) (res : List SV) : M PC :=
  bnd (opt res.getLast?) fun v => bnd (opt (asB v)) fun g => ret [(g, want)]
def lastD (want : Bool) (res : List Value) : Prop := res.getLast? = some (.bool want)
theorem lastB_spec {F : Tab} {ρ : Nat → Int} {U : Nat → Vl → Vl} (hB : Base F ρ U) {want : Bool} {res : List SV} : Spec F (lastB want res) (fun pc => lastD want (cvl F ρ U res) → pcH F ρ U pc) := by
  unfold lastB
  refine Spec.bnd Spec.opt fun v => Spec.bnd (optB hB) fun g => Spec.ret fun h1 h2 he p hp => ?_
  rcases List.mem_cons.1 hp with rfl | hp
  · unfold lastD at he
    have : (cvl F ρ U res).getLast? = some (cv F ρ U v) := by
      unfold cvl
      rw [List.getLast?_map, h2]; rfl
    rw [this, h1] at he
    simp only [Option.some.injEq, Value.bool.injEq] at he
    exact he
  · cases hp
def lawMV [SFrn] (P : Program) (ext orc : List (Nat × SymF)) (us : List FuncId) (cf d : Nat) (f : FuncId) (m : Nat) (args : List SV) (l : List Cnd) (s : Steps) (want : Bool) : M SV :=
  bnd (mkVars m 0) fun _ => bnd (condsS l args) fun q => bnd (stepsS P ext orc us cf d args s [] []) fun res => bnd (lastB want res) fun pc => bnd (funS P ext orc us cf d .no (pc ++ q.2) f q.1 []) fun r => ret r.1
def lawVB [SFrn] (P : Program) (ext orc : List (Nat × SymF)) (us : List FuncId) (cf d : Nat) (f : FuncId) (m : Nat) (args : List SV) (l : List Cnd) (s : Steps) (want : Bool) : Bool :=
  args.all (inR m) && okLawF m (lawMV P ext orc us cf d f m args l s want tab0)
theorem law_runV [Frn] [SFrn] {P : Program} {ext orc : List (Nat × SymF)} {exte orce : Orc} {us : List FuncId} {cf d : Nat} {f : FuncId} {m : Nat} {args : List SV} {l : List Cnd} {s : Steps} {want : Bool} (U : Nat → Vl → Vl) (ρ : Nat → Int)
    (hx : ∀ F, Base F ρ U → ListR F ρ U ext exte) (ho : ∀ F, Base F ρ U → ListR F ρ U orc orce) (hrow : ∀ k, Frn.row k = (SFrn.row k).map (conc (gOf ρ))) (hin : ∀ k, (SFrn.row k).all (inC m) = true)
    (hcn : ∀ F, Base F ρ U → ∀ f g, SFrn.con f = some g → ∃ G, Frn.con f = some G ∧ ∀ pc args h, Spec F (g pc args h) (fun v => pcH F ρ U pc → G (cvl F ρ U args) (hpc F ρ U h) = some (cv F ρ U v, [], true)))
    (h : lawVB P ext orc us cf d f m args l s want = true) (hE : condsH l (args.map (conc (gOf ρ)))) (hS : ∀ res, stepsD P exte orce us cf d (args.map (conc (gOf ρ))) s [] [] = some res → lastD want res) :
    ∃ h', funD P exte orce us cf d f (args.map (conc (gOf ρ))) [] = some (.bool true, h', true) := by
  unfold lawVB at h
  rw [Bool.and_eq_true] at h
  obtain ⟨hargs, h⟩ := h
  cases hm : lawMV P ext orc us cf d f m args l s want tab0 with
  | none => rw [hm] at h; cases h
  | some r =>
    obtain ⟨v, F⟩ := r
    rw [hm] at h
    have h : ((isTrueS v && (wfB F F.n && (Nat.blt 1 F.n && (Nat.beq (nodeAt F 0) 0 && Nat.beq (nodeAt F 1) 256)))) && varsOk F m) = true := h
    simp only [Bool.and_eq_true] at h
    obtain ⟨⟨hv, hw, hn, b0, b1⟩, hvo⟩ := h
    have hF := le_self hw
    have hn := bltT hn
    have hB : Base F ρ U := by
      refine ⟨?_, ?_⟩
      · rw [raw_at hF (i := 0) (by omega), beqT b0]; rfl
      · rw [raw_at hF (i := 1) hn, beqT b1]; rfl
    have hr : ∀ j, j < m → raw F ρ U (j + 2) = .i (ρ j) := vars_raw hF hvo
    have hfr : FrnR F ρ U := ⟨fun k => by rw [hrow k, inCs_conc hr (hin k)], hcn F hB⟩
    have ha : cvl F ρ U args = args.map (conc (gOf ρ)) := inRs_conc hr hargs
    have key : Spec F (lawMV P ext orc us cf d f m args l s want) (fun v => ∃ h', funD P exte orce us cf d f (args.map (conc (gOf ρ))) [] = some (cv F ρ U v, h', true)) := by
      unfold lawMV
      refine Spec.bnd (mkVars_spec m 0) fun _ => Spec.bnd (condsS_ok hB l args) fun q => Spec.bnd (stepsS_spec hB hfr (hx F hB) (ho F hB) s [] []) fun res => Spec.bnd (lastB_spec hB) fun pc => Spec.bnd (funS_spec hB hfr (hx F hB) (ho F hB) d .no (pc ++ q.2) f q.1 []) fun r => Spec.ret fun h1 h4 h3 h2 _ => ?_
      rw [ha] at h2
      obtain ⟨g1, g2⟩ := h2 hE
      rw [g1] at h1
      have h3 : stepsD P exte orce us cf d (cvl F ρ U args) s [] [] = some (cvl F ρ U res) := h3
      rw [ha] at h3
      have g3 := h4 (hS _ h3)
      obtain ⟨h', e, _⟩ := h1 (fun p hp => by
        rcases List.mem_append.1 hp with hp | hp
        · exact g3 p hp
        · exact g2 p hp)
      exact ⟨h', e⟩
    obtain ⟨_, kc⟩ := key tab0 v F hm hF
    obtain ⟨_, h', e⟩ := kc cok0
    rw [isTrueS_spec hB hv] at e
    exact ⟨h', e⟩
end Sx
end
noncomputable section
namespace Sx
open Go Ev Go.RowKit

/-! ### narrow arguments: variables, wrapped -/
def mkWr : List (IntKind × Nat) → M Unit
  | [] => ret ()
  | (k, j) :: r => bnd (mk3 (Nat.add 104 (ik k)) (Nat.add j 2) 0 0) fun _ => mkWr r
def wrOk (F : Tab) (m : Nat) : List (IntKind × Nat) → Nat → Bool
  | [], _ => true
  | (k, j) :: r, i => (Nat.blt i F.n && (Nat.beq (opOf (nodeAt F i)) (104 + ik k) && (Nat.beq (aOf (nodeAt F i)) (j + 2) && Nat.blt j m))) && wrOk F m r (i + 1)
/-- what the table's first nodes stand for -/
def gW (ρ : Nat → Int) (m : Nat) (ws : List (IntKind × Nat)) (i : Nat) : Vl :=
  if i < m + 2 then gOf ρ i else match ws[i - (m + 2)]? with
    | some (k, j) => .i (k.wrap (ρ j))
    | none => .i 0
section
variable {F : Tab} {ρ : Nat → Int} {U : Nat → Vl → Vl}
theorem mkWr_spec : ∀ (l : List (IntKind × Nat)), Spec F (mkWr l) (fun _ => True)
  | [] => Spec.ret trivial
  | (_, _) :: r => Spec.bnd (mk3_spec (ρ := fun _ => 0) (U := fun _ _ => .i 0)) fun _ => (mkWr_spec r).mono fun _ _ _ => trivial
theorem wr_val (g : Nat → Vl) (k : IntKind) (a b c p : Nat) : opVal ρ U g (104 + ik k) a b c p = .i (k.wrap (g a).z) := by
  cases k <;> rfl
theorem wr_raw (hF : Le F F) {m : Nat} (hr : ∀ j, j < m → raw F ρ U (j + 2) = .i (ρ j)) : ∀ {l : List (IntKind × Nat)} {i : Nat}, wrOk F m l i = true → ∀ q k j, l[q]? = some (k, j) → raw F ρ U (i + q) = .i (k.wrap (ρ j))
  | [], _, _, q, k, j, h => by cases h
  | (k0, j0) :: r, i, hw, q, k, j, h => by
    rw [wrOk, Bool.and_eq_true, Bool.and_eq_true, Bool.and_eq_true, Bool.and_eq_true] at hw
    obtain ⟨⟨h1, h2, h3, h4⟩, h5⟩ := hw
    cases q with
    | zero =>
      simp only [List.getElem?_cons_zero, Option.some.injEq, Prod.mk.injEq] at h
      obtain ⟨rfl, rfl⟩ := h
      rw [Nat.add_zero, raw_at hF (bltT h1)]
      unfold nodeVal
      rw [beqT h2, beqT h3, wr_val, hr _ (bltT h4)]
      rfl
    | succ q =>
      rw [List.getElem?_cons_succ] at h
      have := wr_raw hF hr h5 q k j h
      rwa [show i + 1 + q = i + (q + 1) by omega] at this
theorem gW_raw (hF : Le F F) {m : Nat} {ws : List (IntKind × Nat)} (hr : ∀ j, j < m → raw F ρ U (j + 2) = .i (ρ j)) (hw : wrOk F m ws (m + 2) = true) {i : Nat} (h2 : 2 ≤ i) (hi : i < m + ws.length + 2) : raw F ρ U i = gW ρ m ws i := by
  unfold gW
  by_cases hm : i < m + 2
  · rw [if_pos hm]
    unfold gOf
    rw [if_neg (by omega)]
    have := hr (i - 2) (by omega)
    rwa [show i - 2 + 2 = i by omega] at this
  · rw [if_neg hm]
    have hq : i - (m + 2) < ws.length := by omega
    rw [List.getElem?_eq_getElem hq]
    have := wr_raw hF hr hw (i - (m + 2)) ws[i - (m + 2)].1 ws[i - (m + 2)].2 (List.getElem?_eq_getElem hq)
    rwa [show m + 2 + (i - (m + 2)) = i by omega] at this

/-- values out of the table's first nodes -/
def inQ (m : Nat) : SV → Bool
  | .agg l => l.all (inC m)
  | .ptr _ _ => true
  | x => inC m x
def inH (m : Nat) (h : HeapS) : Bool := h.all fun r => match r with
  | some cs => cs.all (inC m)
  | none => true
def concH (g : Nat → Vl) (h : HeapS) : Heap := h.map fun r => r.map fun cs => cs.map (conc g)
theorem inC_cv {m : Nat} {g : Nat → Vl} (hr : ∀ i, 2 ≤ i → i < m + 2 → raw F ρ U i = g i) {x : SV} (h : inC m x = true) : cv F ρ U x = conc g x := by
  have key : ∀ i, (Nat.ble 2 i && Nat.blt i (m + 2)) = true → raw F ρ U i = g i := fun i hi => by
    rw [Bool.and_eq_true] at hi
    exact hr i (Nat.le_of_ble_eq_true hi.1) (bltT hi.2)
  cases x with
  | lit v => simp only [cv, conc]
  | f k i => simp only [cv, conc, key i h]
  | n k i => simp only [cv, conc, key i h]
  | s i => simp only [cv, conc, key i h]
  | _ => cases h
theorem inCs_cv {m : Nat} {g : Nat → Vl} (hr : ∀ i, 2 ≤ i → i < m + 2 → raw F ρ U i = g i) {l : List SV} (h : l.all (inC m) = true) : cvl F ρ U l = l.map (conc g) :=
  List.map_congr_left fun x hx => inC_cv hr (List.all_eq_true.1 h x hx)
theorem inQ_cv {m : Nat} {g : Nat → Vl} (hr : ∀ i, 2 ≤ i → i < m + 2 → raw F ρ U i = g i) {x : SV} (h : inQ m x = true) : cv F ρ U x = conc g x := by
  cases x with
  | agg l =>
    rw [cv_agg, inCs_cv hr h]
    simp only [conc, concL_map]
  | ptr b o => simp only [cv, conc]
  | lit v => exact inC_cv hr h
  | f k i => exact inC_cv hr h
  | n k i => exact inC_cv hr h
  | s i => exact inC_cv hr h
  | _ => cases h
theorem inQs_cv {m : Nat} {g : Nat → Vl} (hr : ∀ i, 2 ≤ i → i < m + 2 → raw F ρ U i = g i) {l : List SV} (h : l.all (inQ m) = true) : cvl F ρ U l = l.map (conc g) :=
  List.map_congr_left fun x hx => inQ_cv hr (List.all_eq_true.1 h x hx)
theorem inH_cv {m : Nat} {g : Nat → Vl} (hr : ∀ i, 2 ≤ i → i < m + 2 → raw F ρ U i = g i) : ∀ {h : HeapS}, inH m h = true → hpc F ρ U h = concH g h
  | [], _ => rfl
  | none :: r, h => by
    rw [inH, List.all_cons, Bool.and_eq_true] at h
    have := inH_cv hr (h := r) h.2
    unfold hpc concH at *
    rw [List.map_cons, List.map_cons, this]; rfl
  | some cs :: r, h => by
    rw [inH, List.all_cons, Bool.and_eq_true] at h
    have := inH_cv hr (h := r) h.2
    unfold hpc concH at *
    rw [List.map_cons, List.map_cons, this]
    show some (cvl F ρ U cs) :: _ = some (cs.map (conc g)) :: _
    rw [inCs_cv hr h.1]

/-! ### what is laid ahead: numbers below constants, or not -/
abbrev Fact := SV × Int × Bool
/-- the number that a fact speaks of; of a text: its length -/
def factN : SV → M Nat
  | .s i => mk3 63 i 0 0
  | x => gd (isI x).isSome (asI x)
def factsS : List Fact → M PC
  | [] => ret []
  | (x, c, pos) :: r => bnd (factN x) fun i => bnd (asI (.lit (.int .i64 c))) fun j => bnd (ltI i j pos) fun v => bnd (opt (asB v)) fun g => bnd (factsS r) fun q => ret ((g, true) :: q)
def factV : Value → Int
  | .int _ z => z
  | .string s => s.size
  | _ => 0
def factsH (g : Nat → Vl) : List Fact → Prop
  | [] => True
  | (x, c, pos) :: r => (bif pos then decide (factV (conc g x) < c) else !decide (factV (conc g x) < c)) = true ∧ factsH g r
theorem factN_ok {x : SV} : Spec F (factN x) (fun i => (raw F ρ U i).z = factV (cv F ρ U x)) := by
  have key : ∀ x : SV, Spec F (gd (isI x).isSome (asI x)) (fun i => (raw F ρ U i).z = factV (cv F ρ U x)) := fun x => by
    refine Spec.gd fun hx => ?_
    obtain ⟨kd, hx⟩ := Option.isSome_iff_exists.1 hx
    refine (asI_spec (ρ := ρ) (U := U) hx).mono fun i h => ?_
    rw [h]; rfl
  unfold factN
  split
  · rename_i i
    refine (mk3_spec (ρ := ρ) (U := U)).mono fun r h => ?_
    obtain ⟨p, h⟩ := h
    rw [h, cv_s]
    rfl
  · exact key _
theorem factsS_ok (hB : Base F ρ U) : ∀ (l : List Fact), Spec F (factsS l) (fun q => factsH (raw F ρ U) l → pcH F ρ U q)
  | [] => Spec.ret fun _ p hp => by cases hp
  | (x, c, pos) :: r => by
    unfold factsS
    refine Spec.bnd (factN_ok (ρ := ρ) (U := U)) fun i => Spec.bnd (asI_spec (ρ := ρ) (U := U) (k := .i64) rfl) fun j => Spec.bnd (ltI_spec hB) fun v => Spec.bnd (optB hB) fun g => Spec.bnd (factsS_ok hB r) fun q => Spec.ret fun h0 h1 h2 h3 h4 he => ?_
    obtain ⟨e2, e3⟩ := he
    intro p hp
    rcases List.mem_cons.1 hp with rfl | hp
    · show tv F ρ U g = true
      rw [cv_lit] at h3
      injection h3 with _ h3
      rw [h2, ← h3, h4] at h1
      injection h1 with h1
      rw [← h1]
      exact e2
    · exact h0 e3 p hp
/-- the same numbers as the table's first nodes -/
theorem facts_cv {m : Nat} {g : Nat → Vl} (hr : ∀ i, 2 ≤ i → i < m + 2 → raw F ρ U i = g i) : ∀ {l : List Fact}, (l.all fun f => inC m f.1) = true → factsH g l → factsH (raw F ρ U) l
  | [], _, _ => trivial
  | (x, c, pos) :: r, h, hf => by
    rw [List.all_cons, Bool.and_eq_true] at h
    obtain ⟨e2, e3⟩ := hf
    refine ⟨?_, facts_cv hr h.2 e3⟩
    rw [← inC_cv hr h.1] at e2
    exact e2

/-! ### two values that are the same -/
def sameL (sv : SV → SV → M Unit) : List SV → List SV → M Unit
  | [], [] => ret ()
  | a :: r, b :: s => bnd (sv a b) fun _ => sameL sv r s
  | _, _ => non
def sameB (pc : PC) (x y : SV) : M Unit :=
  match asB x, asB y with
  | some i, some j => bnd (notS j) fun nj => bnd (ite i j nj) fun e => needS pc e
  | _, _ => non
/-- a number that hangs on decisions, without those that are known -/
def viewI : Nat → PC → Nat → M Nat
  | 0, _, i => ret i
  | k + 1, pc, i => fun t =>
    bif Nat.beq (opAt t i) 3 then
      force (nodeAt t i) fun x => match knownS t (aOf x) pc with
        | some v => viewI k pc (bif v then bOf x else cOf x) t
        | none => some (i, t)
    else some (i, t)
/-- the same number, where it hangs on decisions -/
def eqV : Nat → Nat → Nat → M Nat
  | 0, _, _ => non
  | k + 1, i, j => fun t =>
    bif Nat.beq i j then some (1, t)
    else bif Nat.beq (opAt t i) 3 then force (nodeAt t i) fun x => bnd (atomS (aOf x)) (fun a => bnd (eqV k (bOf x) j) fun h => bnd (eqV k (cOf x) j) fun l => ite a h l) t
    else bif Nat.beq (opAt t j) 3 then force (nodeAt t j) fun x => bnd (atomS (aOf x)) (fun a => bnd (eqV k i (bOf x)) fun h => bnd (eqV k i (cOf x)) fun l => ite a h l) t
    else eqA i j t
def sameN (pc : PC) (x y : SV) : M Unit :=
  match isI x, isI y with
  | some k, some k' => gd (sameI k k') <| bnd (asI x) fun i => bnd (asI y) fun j => bnd (viewI 500 pc i) fun i => bnd (viewI 500 pc j) fun j => bnd (eqV 500 i j) fun e => needS pc e
  | _, _ => sameB pc x y
def sameF (pc : PC) (x y : SV) : M Unit :=
  match isF x, isF y with
  | some k, some k' => gd (sameK k k') <| bnd (asF x) fun i => bnd (asF y) fun j => needEq pc i j
  | _, _ => sameN pc x y
def sameV : Nat → PC → SV → SV → M Unit
  | 0, _, _, _ => non
  | n + 1, pc, x, y => bif eqSV 5 x y then ret () else match x, y with
    | .agg l, .agg m => sameL (sameV n pc) l m
    | .tuple l, .tuple m => sameL (sameV n pc) l m
    | x, y => sameF pc x y
theorem sameL_spec {sv : SV → SV → M Unit} {Q : Prop} (h : ∀ x y, Spec F (sv x y) (fun _ => Q → cv F ρ U x = cv F ρ U y)) : ∀ l m, Spec F (sameL sv l m) (fun _ => Q → cvl F ρ U l = cvl F ρ U m)
  | [], [] => Spec.ret fun _ => rfl
  | a :: r, b :: s => Spec.bnd (h a b) fun _ => (sameL_spec h r s).mono fun _ h1 h2 q => by rw [cvl_cons, cvl_cons, h2 q, h1 q]
  | [], _ :: _ => Spec.non
  | _ :: _, [] => Spec.non
theorem sameB_spec (hB : Base F ρ U) {pc : PC} {x y : SV} : Spec F (sameB pc x y) (fun _ => pcH F ρ U pc → cv F ρ U x = cv F ρ U y) := by
  unfold sameB
  split
  · rename_i i j hx hy
    refine Spec.bnd (notS_spec hB) fun nj => Spec.bnd (ite_tv hB) fun e => (needS_spec hB).mono fun _ h0 h1 h2 hp => ?_
    have := h0 hp
    rw [h1, h2] at this
    rw [asB_spec hB hx, asB_spec hB hy]
    cases h : tv F ρ U i <;> cases h' : tv F ρ U j <;> rw [h, h'] at this <;> first | rfl | cases this
  · exact Spec.non
theorem viewI_spec (hB : Base F ρ U) {pc : PC} : ∀ (k i : Nat), Spec F (viewI k pc i) (fun r => pcH F ρ U pc → raw F ρ U r = raw F ρ U i)
  | 0, i => Spec.ret fun _ => rfl
  | k + 1, i => fun t r t' e hF => by
    unfold viewI at e
    cases h3 : Nat.beq (opAt t i) 3 with
    | false =>
      rw [h3, cond_false] at e
      cases e
      exact ⟨hF, fun c => ⟨c, fun _ => rfl⟩⟩
    | true =>
      rw [h3, cond_true, force_eq] at e
      obtain ⟨g1, g2⟩ := opAt_spec (beqT h3) (by decide)
      cases hk : knownS t (aOf (nodeAt t i)) pc with
      | none =>
        rw [hk] at e
        cases e
        exact ⟨hF, fun c => ⟨c, fun _ => rfl⟩⟩
      | some v =>
        rw [hk] at e
        refine Spec.via (viewI_spec hB k _) e hF fun k1 k2 hp => ?_
        rw [k2 hp, raw_at k1 g1]
        unfold nodeVal
        rw [g2]
        have ha : (raw F ρ U (aOf (nodeAt t i))).tr = v := knownS_spec hB k1 hk hp
        show _ = if (raw F ρ U (aOf (nodeAt t i))).tr then raw F ρ U (bOf (nodeAt t i)) else raw F ρ U (cOf (nodeAt t i))
        cases v with
        | true => rw [if_pos ha]; rfl
        | false => rw [if_neg (by rw [ha]; decide)]; rfl
theorem raw_iteT {t : Tab} (hF : Le t F) {i : Nat} (h : Nat.beq (opAt t i) 3 = true) : raw F ρ U i = if (raw F ρ U (aOf (nodeAt t i))).tr then raw F ρ U (bOf (nodeAt t i)) else raw F ρ U (cOf (nodeAt t i)) := by
  obtain ⟨g1, g2⟩ := opAt_spec (beqT h) (by decide)
  rw [raw_at hF g1]
  unfold nodeVal
  rw [g2]; rfl
theorem eqV_spec (hB : Base F ρ U) : ∀ (k i j : Nat), Spec F (eqV k i j) (fun r => tv F ρ U r = decide ((raw F ρ U i).z = (raw F ρ U j).z))
  | 0, _, _ => Spec.non
  | k + 1, i, j => fun t r t' e hF => by
    unfold eqV at e
    cases h0 : Nat.beq i j with
    | true =>
      rw [h0, cond_true] at e
      cases e
      refine ⟨hF, fun c => ⟨c, ?_⟩⟩
      dsimp only
      rw [beqT h0, hB.t1, decide_eq_true rfl]
    | false =>
    rw [h0, cond_false] at e
    cases h1 : Nat.beq (opAt t i) 3 with
    | true =>
      rw [h1, cond_true, force_eq] at e
      have key : Spec F (bnd (atomS (aOf (nodeAt t i))) fun a => bnd (eqV k (bOf (nodeAt t i)) j) fun h => bnd (eqV k (cOf (nodeAt t i)) j) fun l => ite a h l) (fun r => tv F ρ U r = bif (raw F ρ U (aOf (nodeAt t i))).tr then decide ((raw F ρ U (bOf (nodeAt t i))).z = (raw F ρ U j).z) else decide ((raw F ρ U (cOf (nodeAt t i))).z = (raw F ρ U j).z)) :=
        Spec.bnd (atomS_spec hB) fun a => Spec.bnd (eqV_spec hB k _ _) fun h => Spec.bnd (eqV_spec hB k _ _) fun l => (ite_tv hB).mono fun r h1 h2 h3 h4 => by rw [h1, h2, h3, h4]
      refine Spec.via key e hF fun k1 k2 => ?_
      dsimp only at k2 ⊢
      rw [k2, raw_iteT k1 h1]
      cases (raw F ρ U (aOf (nodeAt t i))).tr with
      | true => rw [if_pos rfl]; rfl
      | false => rw [if_neg (by decide)]; rfl
    | false =>
    rw [h1, cond_false] at e
    cases h2 : Nat.beq (opAt t j) 3 with
    | true =>
      rw [h2, cond_true, force_eq] at e
      have key : Spec F (bnd (atomS (aOf (nodeAt t j))) fun a => bnd (eqV k i (bOf (nodeAt t j))) fun h => bnd (eqV k i (cOf (nodeAt t j))) fun l => ite a h l) (fun r => tv F ρ U r = bif (raw F ρ U (aOf (nodeAt t j))).tr then decide ((raw F ρ U i).z = (raw F ρ U (bOf (nodeAt t j))).z) else decide ((raw F ρ U i).z = (raw F ρ U (cOf (nodeAt t j))).z)) :=
        Spec.bnd (atomS_spec hB) fun a => Spec.bnd (eqV_spec hB k _ _) fun h => Spec.bnd (eqV_spec hB k _ _) fun l => (ite_tv hB).mono fun r h1 h2 h3 h4 => by rw [h1, h2, h3, h4]
      refine Spec.via key e hF fun k1 k2 => ?_
      dsimp only at k2 ⊢
      rw [k2, raw_iteT k1 h2]
      cases (raw F ρ U (aOf (nodeAt t j))).tr with
      | true => rw [if_pos rfl]; rfl
      | false => rw [if_neg (by decide)]; rfl
    | false =>
      rw [h2, cond_false] at e
      exact eqA_spec hB t r t' e hF
theorem sameN_spec (hB : Base F ρ U) {pc : PC} {x y : SV} : Spec F (sameN pc x y) (fun _ => pcH F ρ U pc → cv F ρ U x = cv F ρ U y) := by
  unfold sameN
  split
  · rename_i k k' hx hy
    refine Spec.gd fun hk => Spec.bnd (asI_spec (ρ := ρ) (U := U) hx) fun i => Spec.bnd (asI_spec (ρ := ρ) (U := U) hy) fun j => Spec.bnd (viewI_spec hB 500 i) fun i' => Spec.bnd (viewI_spec hB 500 j) fun j' => Spec.bnd (eqV_spec hB 500 i' j') fun e => (needS_spec hB).mono fun _ h0 h1 h5 h6 h3 h4 hp => ?_
    rw [h0 hp, h5 hp, h6 hp] at h1
    rw [h4, h3, sameI_eq hk]
    have : (raw F ρ U i).z = (raw F ρ U j).z := of_decide_eq_true h1.symm
    rw [this]
  · exact sameB_spec hB
theorem sameF_spec (hB : Base F ρ U) {pc : PC} {x y : SV} : Spec F (sameF pc x y) (fun _ => pcH F ρ U pc → cv F ρ U x = cv F ρ U y) := by
  unfold sameF
  split
  · rename_i k k' hx hy
    refine Spec.gd fun hk => Spec.bnd (asF_spec (ρ := ρ) (U := U) hx) fun i => Spec.bnd (asF_spec (ρ := ρ) (U := U) hy) fun j => (needEq_spec hB).mono fun _ h0 h1 h2 hp => ?_
    rw [h2, h1, h0 hp, sameK_eq hk]
  · exact sameN_spec hB
theorem sameV_spec (hB : Base F ρ U) : ∀ (n : Nat) {pc : PC} {x y : SV}, Spec F (sameV n pc x y) (fun _ => pcH F ρ U pc → cv F ρ U x = cv F ρ U y)
  | 0, _, _, _ => Spec.non
  | n + 1, pc, x, y => by
    unfold sameV
    refine Spec.bif (fun h => Spec.ret fun _ => eqSV_spec 5 h) fun he => ?_
    split
    · rename_i l m
      exact (sameL_spec (fun x y => sameV_spec hB n) l m).mono fun _ h hp => by rw [cv_agg, cv_agg, h hp]
    · rename_i l m
      exact (sameL_spec (fun x y => sameV_spec hB n) l m).mono fun _ h hp => by rw [cv_tuple, cv_tuple, h hp]
    · exact sameF_spec hB
end

/-! ### two runs over what came in -/
/-- a function, its arguments, memory -/
structure Job where
  f : FuncId
  args : List SV
  heap : HeapS
def Job.ok (m : Nat) (j : Job) : Bool := j.args.all (inQ m) && inH m j.heap
/-- an answer's form: some values, each a row or one -/
def isPar : Par → SV → Bool
  | .agg ys, .agg l => Nat.beq ys.length l.length && (ys.zip l).all fun p => isTy p.1 p.2
  | .one y, v => isTy y v
  | _, _ => false
def isPars : List Par → SV → Bool
  | [p], v => isPar p v
  | ps, .tuple l => Nat.beq ps.length l.length && (ps.zip l).all fun p => isPar p.1 p.2
  | _, _ => false
def fitR : List Par → Value → Prop := fun ps v => ∃ vs, v = oneOr vs ∧ fitA ps vs = true
def jobM [SFrn] (P : Program) (ext orc : List (Nat × SymF)) (us : List FuncId) (cf d : Nat) (pc : PC) (j : Job) : M SV :=
  bnd (funS P ext orc us cf d (.cut j.heap.length) pc j.f j.args j.heap) fun r => gd (heapEqS j.heap r.2) (ret r.1)
def pair2M [SFrn] (P : Program) (ext orc : List (Nat × SymF)) (us : List FuncId) (cf d m : Nat) (ws : List (IntKind × Nat)) (fs : List Fact) (a b : Job) : M SV :=
  bnd (mkVars m 0) fun _ => bnd (mkWr ws) fun _ => bnd (factsS fs) fun pc => bnd (jobM P ext orc us cf d pc a) fun x => bnd (jobM P ext orc us cf d pc b) fun y => bnd (sameV 4 pc x y) fun _ => ret x
def okPair2 (m : Nat) (ws : List (IntKind × Nat)) (ps : List Par) : Option (SV × Tab) → Bool
  | some (v, t) => isPars ps v && ((wfB t t.n && (Nat.blt 1 t.n && (Nat.beq (nodeAt t 0) 0 && Nat.beq (nodeAt t 1) 256))) && (varsOk t m && wrOk t m ws (m + 2)))
  | none => false
def pair2B [SFrn] (P : Program) (ext orc : List (Nat × SymF)) (us : List FuncId) (cf d m : Nat) (ws : List (IntKind × Nat)) (fs : List Fact) (a b : Job) (ps : List Par) : Bool :=
  (a.ok (m + ws.length) && (b.ok (m + ws.length) && fs.all fun f => inC (m + ws.length) f.1)) && okPair2 m ws ps (pair2M P ext orc us cf d m ws fs a b tab0)
theorem jobM_spec [Frn] [SFrn] {F : Tab} {ρ : Nat → Int} {U : Nat → Vl → Vl} (hB : Base F ρ U) (hfr : FrnR F ρ U) {P : Program} {ext orc : List (Nat × SymF)} {exte orce : Orc} {us : List FuncId} {cf d : Nat} (hx : ListR F ρ U ext exte) (ho : ListR F ρ U orc orce) {pc : PC} {j : Job} :
    Spec F (jobM P ext orc us cf d pc j) (fun v => pcH F ρ U pc → ∃ h', funD P exte orce us cf d j.f (cvl F ρ U j.args) (hpc F ρ U j.heap) = some (cv F ρ U v, h', true) ∧ h'.take j.heap.length = hpc F ρ U j.heap) := by
  unfold jobM
  refine Spec.bnd (funS_spec hB hfr hx ho d (.cut j.heap.length) pc j.f j.args j.heap) fun r => Spec.gd fun he => Spec.ret fun h hp => ?_
  obtain ⟨h', e, hk⟩ := h hp
  refine ⟨h', e, ?_⟩
  have := keep_same hk he
  rwa [show (hpc F ρ U j.heap).length = j.heap.length by unfold hpc; rw [List.length_map]] at this
theorem isTy_fit {F : Tab} {ρ : Nat → Int} {U : Nat → Vl → Vl} : ∀ {ys : List Ty} {l : List SV}, (Nat.beq ys.length l.length && (ys.zip l).all fun p => isTy p.1 p.2) = true → fitL ys (cvl F ρ U l) = true
  | [], [], _ => rfl
  | y :: ys, v :: l, h => by
    rw [Bool.and_eq_true, List.zip_cons_cons, List.all_cons, Bool.and_eq_true] at h
    obtain ⟨h1, h2, h3⟩ := h
    show (fitV y (cv F ρ U v) && fitL ys (cvl F ρ U l)) = true
    have h1 : Nat.beq ys.length l.length = true := h1
    rw [isTy_spec h2, isTy_fit (ys := ys) (l := l) (by rw [h1, h3]; rfl)]; rfl
  | [], _ :: _, h => by
    rw [Bool.and_eq_true] at h
    cases h.1
  | _ :: _, [], h => by
    rw [Bool.and_eq_true] at h
    cases h.1
theorem isPar_fit {F : Tab} {ρ : Nat → Int} {U : Nat → Vl → Vl} {p : Par} {v : SV} (h : isPar p v = true) : fitP p (cv F ρ U v) = true := by
  cases p with
  | agg ys =>
    cases v with
    | agg l =>
      rw [cv_agg]
      exact isTy_fit h
    | _ => cases h
  | one y =>
    have h : isTy y v = true := h
    have h := isTy_spec (F := F) (ρ := ρ) (U := U) h
    revert h
    generalize cv F ρ U v = u
    intro h
    cases u <;> first | exact h | (cases y <;> cases h)
theorem isPars_fit {F : Tab} {ρ : Nat → Int} {U : Nat → Vl → Vl} {ps : List Par} {v : SV} (h : isPars ps v = true) : fitR ps (cv F ρ U v) := by
  have key : ∀ {qs : List Par} {l : List SV}, (Nat.beq qs.length l.length && (qs.zip l).all fun p => isPar p.1 p.2) = true → fitA qs (cvl F ρ U l) = true := by
    intro qs
    induction qs with
    | nil =>
      intro l h
      cases l with
      | nil => rfl
      | cons v l => rw [Bool.and_eq_true] at h; cases h.1
    | cons q qs ih =>
      intro l h
      cases l with
      | nil => rw [Bool.and_eq_true] at h; cases h.1
      | cons v l =>
        rw [Bool.and_eq_true, List.zip_cons_cons, List.all_cons, Bool.and_eq_true] at h
        obtain ⟨h1, h2, h3⟩ := h
        have h1 : Nat.beq qs.length l.length = true := h1
        show (fitP q (cv F ρ U v) && fitA qs (cvl F ρ U l)) = true
        rw [isPar_fit h2, ih (l := l) (by rw [h1, h3]; rfl)]; rfl
  have many : ∀ {qs : List Par} {l : List SV}, qs.length ≠ 1 → (Nat.beq qs.length l.length && (qs.zip l).all fun p => isPar p.1 p.2) = true → fitR qs (cv F ρ U (.tuple l)) := by
    intro qs l hne h
    refine ⟨cvl F ρ U l, ?_, key h⟩
    rw [cv_tuple]
    rw [Bool.and_eq_true] at h
    have hl := Nat.eq_of_beq_eq_true h.1
    match l, hl with
    | [], _ => rfl
    | [v], hl => exact (hne hl).elim
    | _ :: _ :: _, _ => rfl
  match ps, v, h with
  | [p], v, h => exact ⟨[cv F ρ U v], rfl, by show (fitP p _ && true) = true; rw [isPar_fit (p := p) h]; rfl⟩
  | [], .tuple l, h => exact many (qs := []) (by decide) h
  | p :: q :: r, .tuple l, h => exact many (qs := p :: q :: r) (by simp) h
theorem pair2_run [SFrn] {P : Program} {ext orc : List (Nat × SymF)} {exte orce : Orc} {us : List FuncId} {cf d m : Nat} {ws : List (IntKind × Nat)} {fs : List Fact} {a b : Job} {ps : List Par} (U : Nat → Vl → Vl) (ρ : Nat → Int)
    (hx : ∀ F, Base F ρ U → (∀ i, 2 ≤ i → i < m + ws.length + 2 → raw F ρ U i = gW ρ m ws i) → ListR F ρ U ext exte) (ho : ∀ F, Base F ρ U → (∀ i, 2 ≤ i → i < m + ws.length + 2 → raw F ρ U i = gW ρ m ws i) → ListR F ρ U orc orce)
    (hin : ∀ k, (SFrn.row k).all (inC (m + ws.length)) = true) (h : pair2B P ext orc us cf d m ws fs a b ps = true) (hE : factsH (gW ρ m ws) fs) :
    ∃ V, fitR ps V ∧ ∀ ι : Frn, (∀ k, ι.row k = (SFrn.row k).map (conc (gW ρ m ws))) →
      (∀ F, Base F ρ U → (∀ i, 2 ≤ i → i < m + ws.length + 2 → raw F ρ U i = gW ρ m ws i) → ∀ f g, SFrn.con f = some g → ∃ G, ι.con f = some G ∧ ∀ pc args h, Spec F (g pc args h) (fun v => pcH F ρ U pc → G (cvl F ρ U args) (hpc F ρ U h) = some (cv F ρ U v, [], true))) →
      (∃ h1, @funD ι P exte orce us cf d a.f (a.args.map (conc (gW ρ m ws))) (concH (gW ρ m ws) a.heap) = some (V, h1, true) ∧ h1.take a.heap.length = concH (gW ρ m ws) a.heap) ∧
      ∃ h2, @funD ι P exte orce us cf d b.f (b.args.map (conc (gW ρ m ws))) (concH (gW ρ m ws) b.heap) = some (V, h2, true) ∧ h2.take b.heap.length = concH (gW ρ m ws) b.heap := by
  unfold pair2B at h
  simp only [Bool.and_eq_true] at h
  obtain ⟨⟨ha, hb, hfs⟩, h⟩ := h
  cases hm : pair2M P ext orc us cf d m ws fs a b tab0 with
  | none => rw [hm] at h; cases h
  | some r =>
    obtain ⟨v, F⟩ := r
    rw [hm] at h
    have h : (isPars ps v && ((wfB F F.n && (Nat.blt 1 F.n && (Nat.beq (nodeAt F 0) 0 && Nat.beq (nodeAt F 1) 256))) && (varsOk F m && wrOk F m ws (m + 2)))) = true := h
    simp only [Bool.and_eq_true] at h
    obtain ⟨hps, ⟨hw, hn, b0, b1⟩, hvo, hwo⟩ := h
    have hF := le_self hw
    have hn := bltT hn
    have hB : Base F ρ U := by
      refine ⟨?_, ?_⟩
      · rw [raw_at hF (i := 0) (by omega), beqT b0]; rfl
      · rw [raw_at hF (i := 1) hn, beqT b1]; rfl
    have hv : ∀ j, j < m → raw F ρ U (j + 2) = .i (ρ j) := vars_raw hF hvo
    have hr : ∀ i, 2 ≤ i → i < m + ws.length + 2 → raw F ρ U i = gW ρ m ws i := fun i h1 h2 => gW_raw hF hv hwo h1 h2
    simp only [Job.ok, Bool.and_eq_true] at ha hb
    refine ⟨cv F ρ U v, isPars_fit hps, fun ι hrow hcn => ?_⟩
    have hfr : FrnR F ρ U := ⟨fun k => by rw [hrow k, inCs_cv hr (hin k)], hcn F hB hr⟩
    have key : Spec F (pair2M P ext orc us cf d m ws fs a b) (fun v => (∃ h1, @funD ι P exte orce us cf d a.f (cvl F ρ U a.args) (hpc F ρ U a.heap) = some (cv F ρ U v, h1, true) ∧ h1.take a.heap.length = hpc F ρ U a.heap) ∧
        ∃ h2, @funD ι P exte orce us cf d b.f (cvl F ρ U b.args) (hpc F ρ U b.heap) = some (cv F ρ U v, h2, true) ∧ h2.take b.heap.length = hpc F ρ U b.heap) := by
      unfold pair2M
      refine Spec.bnd (mkVars_spec m 0) fun _ => Spec.bnd (mkWr_spec ws) fun _ => Spec.bnd (factsS_ok hB fs) fun pc => Spec.bnd (jobM_spec hB hfr (hx F hB hr) (ho F hB hr)) fun x => Spec.bnd (jobM_spec hB hfr (hx F hB hr) (ho F hB hr)) fun y => Spec.bnd (sameV_spec hB 4) fun _ => Spec.ret fun h3 h4 h5 h6 _ _ => ?_
      have hp := h6 (facts_cv hr hfs hE)
      refine ⟨h5 hp, ?_⟩
      rw [h3 hp]; exact h4 hp
    obtain ⟨_, kc⟩ := key tab0 v F hm hF
    obtain ⟨_, e1, e2⟩ := kc cok0
    rw [inQs_cv hr ha.1, inH_cv hr ha.2] at e1
    rw [inQs_cv hr hb.1, inH_cv hr hb.2] at e2
    exact ⟨e1, e2⟩

/-! ### one run, whose answer is known -/
def soloM [SFrn] (P : Program) (ext orc : List (Nat × SymF)) (us : List FuncId) (cf d m : Nat) (ws : List (IntKind × Nat)) (fs : List Fact) (a : Job) (t : SV) : M SV :=
  bnd (mkVars m 0) fun _ => bnd (mkWr ws) fun _ => bnd (factsS fs) fun pc => bnd (jobM P ext orc us cf d pc a) fun x => bnd (sameV 4 pc x t) fun _ => ret t
def okSolo (m : Nat) (ws : List (IntKind × Nat)) : Option (SV × Tab) → Bool
  | some (_, t) => (wfB t t.n && (Nat.blt 1 t.n && (Nat.beq (nodeAt t 0) 0 && Nat.beq (nodeAt t 1) 256))) && (varsOk t m && wrOk t m ws (m + 2))
  | none => false
def soloB [SFrn] (P : Program) (ext orc : List (Nat × SymF)) (us : List FuncId) (cf d m : Nat) (ws : List (IntKind × Nat)) (fs : List Fact) (a : Job) (t : SV) : Bool :=
  (a.ok (m + ws.length) && (inQ (m + ws.length) t && fs.all fun f => inC (m + ws.length) f.1)) && okSolo m ws (soloM P ext orc us cf d m ws fs a t tab0)
theorem solo_run [SFrn] {P : Program} {ext orc : List (Nat × SymF)} {exte orce : Orc} {us : List FuncId} {cf d m : Nat} {ws : List (IntKind × Nat)} {fs : List Fact} {a : Job} {t : SV} (U : Nat → Vl → Vl) (ρ : Nat → Int)
    (hx : ∀ F, Base F ρ U → (∀ i, 2 ≤ i → i < m + ws.length + 2 → raw F ρ U i = gW ρ m ws i) → ListR F ρ U ext exte) (ho : ∀ F, Base F ρ U → (∀ i, 2 ≤ i → i < m + ws.length + 2 → raw F ρ U i = gW ρ m ws i) → ListR F ρ U orc orce)
    (hin : ∀ k, (SFrn.row k).all (inC (m + ws.length)) = true) (h : soloB P ext orc us cf d m ws fs a t = true) (hE : factsH (gW ρ m ws) fs) (ι : Frn) (hrow : ∀ k, ι.row k = (SFrn.row k).map (conc (gW ρ m ws)))
    (hcn : ∀ F, Base F ρ U → (∀ i, 2 ≤ i → i < m + ws.length + 2 → raw F ρ U i = gW ρ m ws i) → ∀ f g, SFrn.con f = some g → ∃ G, ι.con f = some G ∧ ∀ pc args h, Spec F (g pc args h) (fun v => pcH F ρ U pc → G (cvl F ρ U args) (hpc F ρ U h) = some (cv F ρ U v, [], true))) :
    ∃ h1, @funD ι P exte orce us cf d a.f (a.args.map (conc (gW ρ m ws))) (concH (gW ρ m ws) a.heap) = some (conc (gW ρ m ws) t, h1, true) ∧ h1.take a.heap.length = concH (gW ρ m ws) a.heap := by
  unfold soloB at h
  simp only [Bool.and_eq_true] at h
  obtain ⟨⟨ha, ht, hfs⟩, h⟩ := h
  cases hm : soloM P ext orc us cf d m ws fs a t tab0 with
  | none => rw [hm] at h; cases h
  | some r =>
    obtain ⟨v, F⟩ := r
    rw [hm] at h
    have h : ((wfB F F.n && (Nat.blt 1 F.n && (Nat.beq (nodeAt F 0) 0 && Nat.beq (nodeAt F 1) 256))) && (varsOk F m && wrOk F m ws (m + 2))) = true := h
    simp only [Bool.and_eq_true] at h
    obtain ⟨⟨hw, hn, b0, b1⟩, hvo, hwo⟩ := h
    have hF := le_self hw
    have hn := bltT hn
    have hB : Base F ρ U := by
      refine ⟨?_, ?_⟩
      · rw [raw_at hF (i := 0) (by omega), beqT b0]; rfl
      · rw [raw_at hF (i := 1) hn, beqT b1]; rfl
    have hv : ∀ j, j < m → raw F ρ U (j + 2) = .i (ρ j) := vars_raw hF hvo
    have hr : ∀ i, 2 ≤ i → i < m + ws.length + 2 → raw F ρ U i = gW ρ m ws i := fun i h1 h2 => gW_raw hF hv hwo h1 h2
    simp only [Job.ok, Bool.and_eq_true] at ha
    have hfr : FrnR F ρ U := ⟨fun k => by rw [hrow k, inCs_cv hr (hin k)], hcn F hB hr⟩
    have key : Spec F (soloM P ext orc us cf d m ws fs a t) (fun _ => ∃ h1, @funD ι P exte orce us cf d a.f (cvl F ρ U a.args) (hpc F ρ U a.heap) = some (cv F ρ U t, h1, true) ∧ h1.take a.heap.length = hpc F ρ U a.heap) := by
      unfold soloM
      refine Spec.bnd (mkVars_spec m 0) fun _ => Spec.bnd (mkWr_spec ws) fun _ => Spec.bnd (factsS_ok hB fs) fun pc => Spec.bnd (jobM_spec hB hfr (hx F hB hr) (ho F hB hr)) fun x => Spec.bnd (sameV_spec hB 4) fun _ => Spec.ret fun h3 h5 h6 _ _ => ?_
      have hp := h6 (facts_cv hr hfs hE)
      rw [← h3 hp]
      exact h5 hp
    obtain ⟨_, kc⟩ := key tab0 v F hm hF
    obtain ⟨_, e1⟩ := kc cok0
    rw [inQs_cv hr ha.1, inH_cv hr ha.2, inQ_cv hr ht] at e1
    exact e1
end Sx
end
noncomputable section
namespace Sx
open Go Ev Go.RowKit

/-! ### two runs under conditions: calls that answer 'true' -/
def condM (run : PC → Job → M SV) : PC → List (Job × Bool) → M PC
  | pc, [] => ret pc
  | pc, c :: r => bnd (run pc c.1) fun x => bnd (opt (asB x)) fun g => condM run ((g, c.2) :: pc) r
theorem condM_spec {F : Tab} {ρ : Nat → Int} {U : Nat → Vl → Vl} (hB : Base F ρ U) {run : PC → Job → M SV} {T : Job → Value → Prop} (h : ∀ pc c, Spec F (run pc c) (fun v => pcH F ρ U pc → T c (cv F ρ U v))) :
    ∀ (cs : List (Job × Bool)) (pc : PC), Spec F (condM run pc cs) (fun q => pcH F ρ U pc → (∀ c ∈ cs, ∀ v, T c.1 v → v = .bool c.2) → pcH F ρ U q)
  | [], pc => Spec.ret fun hp _ => hp
  | c :: r, pc => by
    unfold condM
    refine Spec.bnd (h pc c.1) fun x => Spec.bnd (optB hB) fun g => (condM_spec hB h r ((g, c.2) :: pc)).mono fun q h0 h1 h2 hp hT => ?_
    refine h0 (hp.cons ?_) fun c' hc => hT c' (List.mem_cons_of_mem _ hc)
    have e := hT c (List.mem_cons_self ..) _ (h2 hp)
    rw [h1] at e
    injection e
def pair3M (S1 S2 : SFrn) (P : Program) (ext1 orc1 : List (Nat × SymF)) (us1 : List FuncId) (cf1 d1 : Nat) (cs : List (Job × Bool)) (ext orc : List (Nat × SymF)) (us : List FuncId) (cf d m : Nat) (ws : List (IntKind × Nat)) (fs : List Fact) (a b : Job) : M SV :=
  bnd (mkVars m 0) fun _ => bnd (mkWr ws) fun _ => bnd (factsS fs) fun pc0 => bnd (condM (@jobM S1 P ext1 orc1 us1 cf1 d1) pc0 cs) fun pc => bnd (@jobM S2 P ext orc us cf d pc a) fun x => bnd (@jobM S2 P ext orc us cf d pc b) fun y => bnd (sameV 4 pc x y) fun _ => ret x
def pair3B (S1 S2 : SFrn) (P : Program) (ext1 orc1 : List (Nat × SymF)) (us1 : List FuncId) (cf1 d1 : Nat) (cs : List (Job × Bool)) (ext orc : List (Nat × SymF)) (us : List FuncId) (cf d m : Nat) (ws : List (IntKind × Nat)) (fs : List Fact) (a b : Job) (ps : List Par) : Bool :=
  (a.ok (m + ws.length) && (b.ok (m + ws.length) && ((cs.all fun c => Job.ok (m + ws.length) c.1) && fs.all fun f => inC (m + ws.length) f.1))) && okPair2 m ws ps (pair3M S1 S2 P ext1 orc1 us1 cf1 d1 cs ext orc us cf d m ws fs a b tab0)
theorem pair3_run {S1 S2 : SFrn} {P : Program} {ext1 orc1 : List (Nat × SymF)} {exte1 orce1 : Orc} {us1 : List FuncId} {cf1 d1 : Nat} {cs : List (Job × Bool)} {ext orc : List (Nat × SymF)} {exte orce : Orc} {us : List FuncId} {cf d m : Nat} {ws : List (IntKind × Nat)} {fs : List Fact} {a b : Job} {ps : List Par} (U : Nat → Vl → Vl) (ρ : Nat → Int)
    (hx1 : ∀ F, Base F ρ U → (∀ i, 2 ≤ i → i < m + ws.length + 2 → raw F ρ U i = gW ρ m ws i) → ListR F ρ U ext1 exte1) (ho1 : ∀ F, Base F ρ U → (∀ i, 2 ≤ i → i < m + ws.length + 2 → raw F ρ U i = gW ρ m ws i) → ListR F ρ U orc1 orce1)
    (hx : ∀ F, Base F ρ U → (∀ i, 2 ≤ i → i < m + ws.length + 2 → raw F ρ U i = gW ρ m ws i) → ListR F ρ U ext exte) (ho : ∀ F, Base F ρ U → (∀ i, 2 ≤ i → i < m + ws.length + 2 → raw F ρ U i = gW ρ m ws i) → ListR F ρ U orc orce)
    (hin1 : ∀ k, (S1.row k).all (inC (m + ws.length)) = true) (hin : ∀ k, (S2.row k).all (inC (m + ws.length)) = true) (h : pair3B S1 S2 P ext1 orc1 us1 cf1 d1 cs ext orc us cf d m ws fs a b ps = true) (hE : factsH (gW ρ m ws) fs) :
    ∃ V, fitR ps V ∧ ∀ ι1 ι : Frn, (∀ k, ι1.row k = (S1.row k).map (conc (gW ρ m ws))) → (∀ k, ι.row k = (S2.row k).map (conc (gW ρ m ws))) →
      (∀ F, Base F ρ U → (∀ i, 2 ≤ i → i < m + ws.length + 2 → raw F ρ U i = gW ρ m ws i) → ∀ f g, S1.con f = some g → ∃ G, ι1.con f = some G ∧ ∀ pc args h, Spec F (g pc args h) (fun v => pcH F ρ U pc → G (cvl F ρ U args) (hpc F ρ U h) = some (cv F ρ U v, [], true))) →
      (∀ F, Base F ρ U → (∀ i, 2 ≤ i → i < m + ws.length + 2 → raw F ρ U i = gW ρ m ws i) → ∀ f g, S2.con f = some g → ∃ G, ι.con f = some G ∧ ∀ pc args h, Spec F (g pc args h) (fun v => pcH F ρ U pc → G (cvl F ρ U args) (hpc F ρ U h) = some (cv F ρ U v, [], true))) →
      (∀ c ∈ cs, ∃ h', @funD ι1 P exte1 orce1 us1 cf1 d1 c.1.f (c.1.args.map (conc (gW ρ m ws))) (concH (gW ρ m ws) c.1.heap) = some (.bool c.2, h', true)) →
      (∃ h1, @funD ι P exte orce us cf d a.f (a.args.map (conc (gW ρ m ws))) (concH (gW ρ m ws) a.heap) = some (V, h1, true) ∧ h1.take a.heap.length = concH (gW ρ m ws) a.heap) ∧
      ∃ h2, @funD ι P exte orce us cf d b.f (b.args.map (conc (gW ρ m ws))) (concH (gW ρ m ws) b.heap) = some (V, h2, true) ∧ h2.take b.heap.length = concH (gW ρ m ws) b.heap := by
  unfold pair3B at h
  simp only [Bool.and_eq_true] at h
  obtain ⟨⟨ha, hb, hcs, hfs⟩, h⟩ := h
  cases hm : pair3M S1 S2 P ext1 orc1 us1 cf1 d1 cs ext orc us cf d m ws fs a b tab0 with
  | none => rw [hm] at h; cases h
  | some r =>
    obtain ⟨v, F⟩ := r
    rw [hm] at h
    have h : (isPars ps v && ((wfB F F.n && (Nat.blt 1 F.n && (Nat.beq (nodeAt F 0) 0 && Nat.beq (nodeAt F 1) 256))) && (varsOk F m && wrOk F m ws (m + 2)))) = true := h
    simp only [Bool.and_eq_true] at h
    obtain ⟨hps, ⟨hw, hn, b0, b1⟩, hvo, hwo⟩ := h
    have hF := le_self hw
    have hn := bltT hn
    have hB : Base F ρ U := by
      refine ⟨?_, ?_⟩
      · rw [raw_at hF (i := 0) (by omega), beqT b0]; rfl
      · rw [raw_at hF (i := 1) hn, beqT b1]; rfl
    have hv : ∀ j, j < m → raw F ρ U (j + 2) = .i (ρ j) := vars_raw hF hvo
    have hr : ∀ i, 2 ≤ i → i < m + ws.length + 2 → raw F ρ U i = gW ρ m ws i := fun i h1 h2 => gW_raw hF hv hwo h1 h2
    simp only [Job.ok, Bool.and_eq_true] at ha hb
    refine ⟨cv F ρ U v, isPars_fit hps, fun ι1 ι hrow1 hrow hcn1 hcn hcond => ?_⟩
    have hfr1 : @FrnR ι1 S1 F ρ U := @FrnR.mk ι1 S1 F ρ U (fun k => (hrow1 k).trans (inCs_cv hr (hin1 k)).symm) (hcn1 F hB hr)
    have hfr : @FrnR ι S2 F ρ U := @FrnR.mk ι S2 F ρ U (fun k => (hrow k).trans (inCs_cv hr (hin k)).symm) (hcn F hB hr)
    have key : Spec F (pair3M S1 S2 P ext1 orc1 us1 cf1 d1 cs ext orc us cf d m ws fs a b) (fun v => (∃ h1, @funD ι P exte orce us cf d a.f (cvl F ρ U a.args) (hpc F ρ U a.heap) = some (cv F ρ U v, h1, true) ∧ h1.take a.heap.length = hpc F ρ U a.heap) ∧
        ∃ h2, @funD ι P exte orce us cf d b.f (cvl F ρ U b.args) (hpc F ρ U b.heap) = some (cv F ρ U v, h2, true) ∧ h2.take b.heap.length = hpc F ρ U b.heap) := by
      unfold pair3M
      refine Spec.bnd (mkVars_spec m 0) fun _ => Spec.bnd (mkWr_spec ws) fun _ => Spec.bnd (factsS_ok hB fs) fun pc0 => Spec.bnd (condM_spec (T := fun c v => ∃ h', @funD ι1 P exte1 orce1 us1 cf1 d1 c.f (cvl F ρ U c.args) (hpc F ρ U c.heap) = some (v, h', true) ∧ h'.take c.heap.length = hpc F ρ U c.heap) hB
        (fun pc c => @jobM_spec ι1 S1 F ρ U hB hfr1 P ext1 orc1 exte1 orce1 us1 cf1 d1 (hx1 F hB hr) (ho1 F hB hr) pc c) cs pc0) fun pc => Spec.bnd (@jobM_spec ι S2 F ρ U hB hfr P ext orc exte orce us cf d (hx F hB hr) (ho F hB hr) pc a) fun x => Spec.bnd (@jobM_spec ι S2 F ρ U hB hfr P ext orc exte orce us cf d (hx F hB hr) (ho F hB hr) pc b) fun y => Spec.bnd (sameV_spec hB 4) fun _ => Spec.ret fun h3 h4 h5 hc h6 _ _ => ?_
      have hp := hc (h6 (facts_cv hr hfs hE)) fun c hmem v hT => by
        obtain ⟨h', e, _⟩ := hT
        have hok := List.all_eq_true.1 hcs c hmem
        rw [Job.ok, Bool.and_eq_true] at hok
        rw [inQs_cv hr hok.1, inH_cv hr hok.2] at e
        obtain ⟨h2, e2⟩ := hcond c hmem
        rw [e] at e2
        injection e2 with e2
        injection e2
      refine ⟨h5 hp, ?_⟩
      rw [h3 hp]; exact h4 hp
    obtain ⟨_, kc⟩ := key tab0 v F hm hF
    obtain ⟨_, e1, e2⟩ := kc cok0
    rw [inQs_cv hr ha.1, inH_cv hr ha.2] at e1
    rw [inQs_cv hr hb.1, inH_cv hr hb.2] at e2
    exact ⟨e1, e2⟩
/-! ### two runs that lean on what a third one answers -/
def pair4M (S1 S2 : SFrn) (S3 : SV → SFrn) (P : Program) (ext1 orc1 : List (Nat × SymF)) (us1 : List FuncId) (cf1 d1 : Nat) (cs : List (Job × Bool)) (ext2 orc2 : List (Nat × SymF)) (us2 : List FuncId) (cf2 d2 : Nat) (c : Job) (ext orc : List (Nat × SymF)) (us : List FuncId) (cf d m : Nat) (ws : List (IntKind × Nat)) (fs : List Fact) (a b : Job) : M SV :=
  bnd (mkVars m 0) fun _ => bnd (mkWr ws) fun _ => bnd (factsS fs) fun pc0 => bnd (condM (@jobM S1 P ext1 orc1 us1 cf1 d1) pc0 cs) fun pc => bnd (@jobM S2 P ext2 orc2 us2 cf2 d2 pc c) fun r => bnd (@jobM (S3 r) P ext orc us cf d pc a) fun x => bnd (@jobM (S3 r) P ext orc us cf d pc b) fun y => bnd (sameV 4 pc x y) fun _ => ret x
def pair4B (S1 S2 : SFrn) (S3 : SV → SFrn) (P : Program) (ext1 orc1 : List (Nat × SymF)) (us1 : List FuncId) (cf1 d1 : Nat) (cs : List (Job × Bool)) (ext2 orc2 : List (Nat × SymF)) (us2 : List FuncId) (cf2 d2 : Nat) (c : Job) (ext orc : List (Nat × SymF)) (us : List FuncId) (cf d m : Nat) (ws : List (IntKind × Nat)) (fs : List Fact) (a b : Job) (ps : List Par) : Bool :=
  (c.ok (m + ws.length) && (a.ok (m + ws.length) && (b.ok (m + ws.length) && ((cs.all fun c => Job.ok (m + ws.length) c.1) && fs.all fun f => inC (m + ws.length) f.1)))) && okPair2 m ws ps (pair4M S1 S2 S3 P ext1 orc1 us1 cf1 d1 cs ext2 orc2 us2 cf2 d2 c ext orc us cf d m ws fs a b tab0)
theorem pair4_run {S1 S2 : SFrn} {S3 : SV → SFrn} {P : Program} {ext1 orc1 : List (Nat × SymF)} {exte1 orce1 : Orc} {us1 : List FuncId} {cf1 d1 : Nat} {cs : List (Job × Bool)} {ext2 orc2 : List (Nat × SymF)} {exte2 orce2 : Orc} {us2 : List FuncId} {cf2 d2 : Nat} {c : Job} {ext orc : List (Nat × SymF)} {exte orce : Orc} {us : List FuncId} {cf d m : Nat} {ws : List (IntKind × Nat)} {fs : List Fact} {a b : Job} {ps : List Par} (U : Nat → Vl → Vl) (ρ : Nat → Int)
    (hx1 : ∀ F, Base F ρ U → (∀ i, 2 ≤ i → i < m + ws.length + 2 → raw F ρ U i = gW ρ m ws i) → ListR F ρ U ext1 exte1) (ho1 : ∀ F, Base F ρ U → (∀ i, 2 ≤ i → i < m + ws.length + 2 → raw F ρ U i = gW ρ m ws i) → ListR F ρ U orc1 orce1)
    (hx2 : ∀ F, Base F ρ U → (∀ i, 2 ≤ i → i < m + ws.length + 2 → raw F ρ U i = gW ρ m ws i) → ListR F ρ U ext2 exte2) (ho2 : ∀ F, Base F ρ U → (∀ i, 2 ≤ i → i < m + ws.length + 2 → raw F ρ U i = gW ρ m ws i) → ListR F ρ U orc2 orce2)
    (hx : ∀ F, Base F ρ U → (∀ i, 2 ≤ i → i < m + ws.length + 2 → raw F ρ U i = gW ρ m ws i) → ListR F ρ U ext exte) (ho : ∀ F, Base F ρ U → (∀ i, 2 ≤ i → i < m + ws.length + 2 → raw F ρ U i = gW ρ m ws i) → ListR F ρ U orc orce)
    (hin1 : ∀ k, (S1.row k).all (inC (m + ws.length)) = true) (hin2 : ∀ k, (S2.row k).all (inC (m + ws.length)) = true) (hin : ∀ r k, ((S3 r).row k).all (inC (m + ws.length)) = true) (h : pair4B S1 S2 S3 P ext1 orc1 us1 cf1 d1 cs ext2 orc2 us2 cf2 d2 c ext orc us cf d m ws fs a b ps = true) (hE : factsH (gW ρ m ws) fs) :
    ∃ V, fitR ps V ∧ ∀ (ι1 ι2 : Frn) (ι : Value → Frn) (W : Value), (∀ k, ι1.row k = (S1.row k).map (conc (gW ρ m ws))) → (∀ k, ι2.row k = (S2.row k).map (conc (gW ρ m ws))) → (∀ V r k, (ι V).row k = ((S3 r).row k).map (conc (gW ρ m ws))) →
      (∀ F, Base F ρ U → (∀ i, 2 ≤ i → i < m + ws.length + 2 → raw F ρ U i = gW ρ m ws i) → ∀ f g, S1.con f = some g → ∃ G, ι1.con f = some G ∧ ∀ pc args h, Spec F (g pc args h) (fun v => pcH F ρ U pc → G (cvl F ρ U args) (hpc F ρ U h) = some (cv F ρ U v, [], true))) →
      (∀ F, Base F ρ U → (∀ i, 2 ≤ i → i < m + ws.length + 2 → raw F ρ U i = gW ρ m ws i) → ∀ f g, S2.con f = some g → ∃ G, ι2.con f = some G ∧ ∀ pc args h, Spec F (g pc args h) (fun v => pcH F ρ U pc → G (cvl F ρ U args) (hpc F ρ U h) = some (cv F ρ U v, [], true))) →
      (∀ F, Base F ρ U → (∀ i, 2 ≤ i → i < m + ws.length + 2 → raw F ρ U i = gW ρ m ws i) → ∀ r f g, (S3 r).con f = some g → ∃ G, (ι (cv F ρ U r)).con f = some G ∧ ∀ pc args h, Spec F (g pc args h) (fun v => pcH F ρ U pc → G (cvl F ρ U args) (hpc F ρ U h) = some (cv F ρ U v, [], true))) →
      (∀ c ∈ cs, ∃ h', @funD ι1 P exte1 orce1 us1 cf1 d1 c.1.f (c.1.args.map (conc (gW ρ m ws))) (concH (gW ρ m ws) c.1.heap) = some (.bool c.2, h', true)) →
      (∃ h', @funD ι2 P exte2 orce2 us2 cf2 d2 c.f (c.args.map (conc (gW ρ m ws))) (concH (gW ρ m ws) c.heap) = some (W, h', true)) →
      (∃ h1, @funD (ι W) P exte orce us cf d a.f (a.args.map (conc (gW ρ m ws))) (concH (gW ρ m ws) a.heap) = some (V, h1, true) ∧ h1.take a.heap.length = concH (gW ρ m ws) a.heap) ∧
      ∃ h2, @funD (ι W) P exte orce us cf d b.f (b.args.map (conc (gW ρ m ws))) (concH (gW ρ m ws) b.heap) = some (V, h2, true) ∧ h2.take b.heap.length = concH (gW ρ m ws) b.heap := by
  unfold pair4B at h
  simp only [Bool.and_eq_true] at h
  obtain ⟨⟨hjc, ha, hb, hcs, hfs⟩, h⟩ := h
  cases hm : pair4M S1 S2 S3 P ext1 orc1 us1 cf1 d1 cs ext2 orc2 us2 cf2 d2 c ext orc us cf d m ws fs a b tab0 with
  | none => rw [hm] at h; cases h
  | some r =>
    obtain ⟨v, F⟩ := r
    rw [hm] at h
    have h : (isPars ps v && ((wfB F F.n && (Nat.blt 1 F.n && (Nat.beq (nodeAt F 0) 0 && Nat.beq (nodeAt F 1) 256))) && (varsOk F m && wrOk F m ws (m + 2)))) = true := h
    simp only [Bool.and_eq_true] at h
    obtain ⟨hps, ⟨hw, hn, b0, b1⟩, hvo, hwo⟩ := h
    have hF := le_self hw
    have hn := bltT hn
    have hB : Base F ρ U := by
      refine ⟨?_, ?_⟩
      · rw [raw_at hF (i := 0) (by omega), beqT b0]; rfl
      · rw [raw_at hF (i := 1) hn, beqT b1]; rfl
    have hv : ∀ j, j < m → raw F ρ U (j + 2) = .i (ρ j) := vars_raw hF hvo
    have hr : ∀ i, 2 ≤ i → i < m + ws.length + 2 → raw F ρ U i = gW ρ m ws i := fun i h1 h2 => gW_raw hF hv hwo h1 h2
    simp only [Job.ok, Bool.and_eq_true] at hjc ha hb
    refine ⟨cv F ρ U v, isPars_fit hps, fun ι1 ι2 ι W hrow1 hrow2 hrow hcn1 hcn2 hcn hcond hcW => ?_⟩
    have hfr1 : @FrnR ι1 S1 F ρ U := @FrnR.mk ι1 S1 F ρ U (fun k => (hrow1 k).trans (inCs_cv hr (hin1 k)).symm) (hcn1 F hB hr)
    have hfr2 : @FrnR ι2 S2 F ρ U := @FrnR.mk ι2 S2 F ρ U (fun k => (hrow2 k).trans (inCs_cv hr (hin2 k)).symm) (hcn2 F hB hr)
    have hfr : ∀ r, @FrnR (ι (cv F ρ U r)) (S3 r) F ρ U := fun r => @FrnR.mk (ι (cv F ρ U r)) (S3 r) F ρ U (fun k => (hrow _ r k).trans (inCs_cv hr (hin r k)).symm) (hcn F hB hr r)
    have key : Spec F (pair4M S1 S2 S3 P ext1 orc1 us1 cf1 d1 cs ext2 orc2 us2 cf2 d2 c ext orc us cf d m ws fs a b) (fun v => (∃ h1, @funD (ι W) P exte orce us cf d a.f (cvl F ρ U a.args) (hpc F ρ U a.heap) = some (cv F ρ U v, h1, true) ∧ h1.take a.heap.length = hpc F ρ U a.heap) ∧
        ∃ h2, @funD (ι W) P exte orce us cf d b.f (cvl F ρ U b.args) (hpc F ρ U b.heap) = some (cv F ρ U v, h2, true) ∧ h2.take b.heap.length = hpc F ρ U b.heap) := by
      unfold pair4M
      refine Spec.bnd (mkVars_spec m 0) fun _ => Spec.bnd (mkWr_spec ws) fun _ => Spec.bnd (factsS_ok hB fs) fun pc0 => Spec.bnd (condM_spec (T := fun c v => ∃ h', @funD ι1 P exte1 orce1 us1 cf1 d1 c.f (cvl F ρ U c.args) (hpc F ρ U c.heap) = some (v, h', true) ∧ h'.take c.heap.length = hpc F ρ U c.heap) hB
        (fun pc c => @jobM_spec ι1 S1 F ρ U hB hfr1 P ext1 orc1 exte1 orce1 us1 cf1 d1 (hx1 F hB hr) (ho1 F hB hr) pc c) cs pc0) fun pc => Spec.bnd (@jobM_spec ι2 S2 F ρ U hB hfr2 P ext2 orc2 exte2 orce2 us2 cf2 d2 (hx2 F hB hr) (ho2 F hB hr) pc c) fun r => Spec.bnd (@jobM_spec (ι (cv F ρ U r)) (S3 r) F ρ U hB (hfr r) P ext orc exte orce us cf d (hx F hB hr) (ho F hB hr) pc a) fun x => Spec.bnd (@jobM_spec (ι (cv F ρ U r)) (S3 r) F ρ U hB (hfr r) P ext orc exte orce us cf d (hx F hB hr) (ho F hB hr) pc b) fun y => Spec.bnd (sameV_spec hB 4) fun _ => Spec.ret fun h3 h4 h5 h9 hc h6 _ _ => ?_
      have hp := hc (h6 (facts_cv hr hfs hE)) fun c hmem v hT => by
        obtain ⟨h', e, _⟩ := hT
        have hok := List.all_eq_true.1 hcs c hmem
        rw [Job.ok, Bool.and_eq_true] at hok
        rw [inQs_cv hr hok.1, inH_cv hr hok.2] at e
        obtain ⟨h2, e2⟩ := hcond c hmem
        rw [e] at e2
        injection e2 with e2
        injection e2
      have hW : cv F ρ U r = W := by
        obtain ⟨h', e, _⟩ := h9 hp
        rw [inQs_cv hr hjc.1, inH_cv hr hjc.2] at e
        obtain ⟨h2, e2⟩ := hcW
        rw [e] at e2
        injection e2 with e2
        injection e2
      have h5 := h5 hp
      have h4 := h4 hp
      rw [hW] at h4 h5
      refine ⟨h5, ?_⟩
      rw [h3 hp]; exact h4
    obtain ⟨_, kc⟩ := key tab0 v F hm hF
    obtain ⟨_, e1, e2⟩ := kc cok0
    rw [inQs_cv hr ha.1, inH_cv hr ha.2] at e1
    rw [inQs_cv hr hb.1, inH_cv hr hb.2] at e2
    exact ⟨e1, e2⟩
/-! ### one run under conditions, whose answer is known -/
def inT (m : Nat) : SV → Bool
  | .tuple l => l.all (inQ m)
  | x => inQ m x
theorem inT_cv {F : Tab} {ρ : Nat → Int} {U : Nat → Vl → Vl} {m : Nat} {g : Nat → Vl} (hr : ∀ i, 2 ≤ i → i < m + 2 → raw F ρ U i = g i) {x : SV} (h : inT m x = true) : cv F ρ U x = conc g x := by
  cases x with
  | tuple l =>
    rw [cv_tuple, inQs_cv hr h]
    simp only [conc, concL_map]
  | agg l => exact inQ_cv hr h
  | ptr b o => exact inQ_cv hr h
  | lit v => exact inQ_cv hr h
  | f k i => exact inQ_cv hr h
  | n k i => exact inQ_cv hr h
  | s i => exact inQ_cv hr h
  | _ => cases h
def solo3M (S1 S2 : SFrn) (P : Program) (ext1 orc1 : List (Nat × SymF)) (us1 : List FuncId) (cf1 d1 : Nat) (cs : List (Job × Bool)) (ext orc : List (Nat × SymF)) (us : List FuncId) (cf d m : Nat) (ws : List (IntKind × Nat)) (fs : List Fact) (a : Job) (t : SV) : M SV :=
  bnd (mkVars m 0) fun _ => bnd (mkWr ws) fun _ => bnd (factsS fs) fun pc0 => bnd (condM (@jobM S1 P ext1 orc1 us1 cf1 d1) pc0 cs) fun pc => bnd (@jobM S2 P ext orc us cf d pc a) fun x => bnd (sameV 4 pc x t) fun _ => ret t
def solo3B (S1 S2 : SFrn) (P : Program) (ext1 orc1 : List (Nat × SymF)) (us1 : List FuncId) (cf1 d1 : Nat) (cs : List (Job × Bool)) (ext orc : List (Nat × SymF)) (us : List FuncId) (cf d m : Nat) (ws : List (IntKind × Nat)) (fs : List Fact) (a : Job) (t : SV) : Bool :=
  (a.ok (m + ws.length) && (inT (m + ws.length) t && ((cs.all fun c => Job.ok (m + ws.length) c.1) && fs.all fun f => inC (m + ws.length) f.1))) && okSolo m ws (solo3M S1 S2 P ext1 orc1 us1 cf1 d1 cs ext orc us cf d m ws fs a t tab0)
theorem solo3_run {S1 S2 : SFrn} {P : Program} {ext1 orc1 : List (Nat × SymF)} {exte1 orce1 : Orc} {us1 : List FuncId} {cf1 d1 : Nat} {cs : List (Job × Bool)} {ext orc : List (Nat × SymF)} {exte orce : Orc} {us : List FuncId} {cf d m : Nat} {ws : List (IntKind × Nat)} {fs : List Fact} {a : Job} {t : SV} (U : Nat → Vl → Vl) (ρ : Nat → Int)
    (hx1 : ∀ F, Base F ρ U → (∀ i, 2 ≤ i → i < m + ws.length + 2 → raw F ρ U i = gW ρ m ws i) → ListR F ρ U ext1 exte1) (ho1 : ∀ F, Base F ρ U → (∀ i, 2 ≤ i → i < m + ws.length + 2 → raw F ρ U i = gW ρ m ws i) → ListR F ρ U orc1 orce1)
    (hx : ∀ F, Base F ρ U → (∀ i, 2 ≤ i → i < m + ws.length + 2 → raw F ρ U i = gW ρ m ws i) → ListR F ρ U ext exte) (ho : ∀ F, Base F ρ U → (∀ i, 2 ≤ i → i < m + ws.length + 2 → raw F ρ U i = gW ρ m ws i) → ListR F ρ U orc orce)
    (hin1 : ∀ k, (S1.row k).all (inC (m + ws.length)) = true) (hin : ∀ k, (S2.row k).all (inC (m + ws.length)) = true) (h : solo3B S1 S2 P ext1 orc1 us1 cf1 d1 cs ext orc us cf d m ws fs a t = true) (hE : factsH (gW ρ m ws) fs) :
    ∀ ι1 ι : Frn, (∀ k, ι1.row k = (S1.row k).map (conc (gW ρ m ws))) → (∀ k, ι.row k = (S2.row k).map (conc (gW ρ m ws))) →
      (∀ F, Base F ρ U → (∀ i, 2 ≤ i → i < m + ws.length + 2 → raw F ρ U i = gW ρ m ws i) → ∀ f g, S1.con f = some g → ∃ G, ι1.con f = some G ∧ ∀ pc args h, Spec F (g pc args h) (fun v => pcH F ρ U pc → G (cvl F ρ U args) (hpc F ρ U h) = some (cv F ρ U v, [], true))) →
      (∀ F, Base F ρ U → (∀ i, 2 ≤ i → i < m + ws.length + 2 → raw F ρ U i = gW ρ m ws i) → ∀ f g, S2.con f = some g → ∃ G, ι.con f = some G ∧ ∀ pc args h, Spec F (g pc args h) (fun v => pcH F ρ U pc → G (cvl F ρ U args) (hpc F ρ U h) = some (cv F ρ U v, [], true))) →
      (∀ c ∈ cs, ∃ h', @funD ι1 P exte1 orce1 us1 cf1 d1 c.1.f (c.1.args.map (conc (gW ρ m ws))) (concH (gW ρ m ws) c.1.heap) = some (.bool c.2, h', true)) →
      ∃ h1, @funD ι P exte orce us cf d a.f (a.args.map (conc (gW ρ m ws))) (concH (gW ρ m ws) a.heap) = some (conc (gW ρ m ws) t, h1, true) ∧ h1.take a.heap.length = concH (gW ρ m ws) a.heap := by
  unfold solo3B at h
  simp only [Bool.and_eq_true] at h
  obtain ⟨⟨ha, ht, hcs, hfs⟩, h⟩ := h
  cases hm : solo3M S1 S2 P ext1 orc1 us1 cf1 d1 cs ext orc us cf d m ws fs a t tab0 with
  | none => rw [hm] at h; cases h
  | some r =>
    obtain ⟨v, F⟩ := r
    rw [hm] at h
    have h : (((wfB F F.n && (Nat.blt 1 F.n && (Nat.beq (nodeAt F 0) 0 && Nat.beq (nodeAt F 1) 256))) && (varsOk F m && wrOk F m ws (m + 2)))) = true := h
    simp only [Bool.and_eq_true] at h
    obtain ⟨⟨hw, hn, b0, b1⟩, hvo, hwo⟩ := h
    have hF := le_self hw
    have hn := bltT hn
    have hB : Base F ρ U := by
      refine ⟨?_, ?_⟩
      · rw [raw_at hF (i := 0) (by omega), beqT b0]; rfl
      · rw [raw_at hF (i := 1) hn, beqT b1]; rfl
    have hv : ∀ j, j < m → raw F ρ U (j + 2) = .i (ρ j) := vars_raw hF hvo
    have hr : ∀ i, 2 ≤ i → i < m + ws.length + 2 → raw F ρ U i = gW ρ m ws i := fun i h1 h2 => gW_raw hF hv hwo h1 h2
    simp only [Job.ok, Bool.and_eq_true] at ha
    intro ι1 ι hrow1 hrow hcn1 hcn hcond
    have hfr1 : @FrnR ι1 S1 F ρ U := @FrnR.mk ι1 S1 F ρ U (fun k => (hrow1 k).trans (inCs_cv hr (hin1 k)).symm) (hcn1 F hB hr)
    have hfr : @FrnR ι S2 F ρ U := @FrnR.mk ι S2 F ρ U (fun k => (hrow k).trans (inCs_cv hr (hin k)).symm) (hcn F hB hr)
    have key : Spec F (solo3M S1 S2 P ext1 orc1 us1 cf1 d1 cs ext orc us cf d m ws fs a t) (fun _ => ∃ h1, @funD ι P exte orce us cf d a.f (cvl F ρ U a.args) (hpc F ρ U a.heap) = some (cv F ρ U t, h1, true) ∧ h1.take a.heap.length = hpc F ρ U a.heap) := by
      unfold solo3M
      refine Spec.bnd (mkVars_spec m 0) fun _ => Spec.bnd (mkWr_spec ws) fun _ => Spec.bnd (factsS_ok hB fs) fun pc0 => Spec.bnd (condM_spec (T := fun c v => ∃ h', @funD ι1 P exte1 orce1 us1 cf1 d1 c.f (cvl F ρ U c.args) (hpc F ρ U c.heap) = some (v, h', true) ∧ h'.take c.heap.length = hpc F ρ U c.heap) hB
        (fun pc c => @jobM_spec ι1 S1 F ρ U hB hfr1 P ext1 orc1 exte1 orce1 us1 cf1 d1 (hx1 F hB hr) (ho1 F hB hr) pc c) cs pc0) fun pc => Spec.bnd (@jobM_spec ι S2 F ρ U hB hfr P ext orc exte orce us cf d (hx F hB hr) (ho F hB hr) pc a) fun x => Spec.bnd (sameV_spec hB 4) fun _ => Spec.ret fun h3 h5 hc h6 _ _ => ?_
      have hp := hc (h6 (facts_cv hr hfs hE)) fun c hmem v hT => by
        obtain ⟨h', e, _⟩ := hT
        have hok := List.all_eq_true.1 hcs c hmem
        rw [Job.ok, Bool.and_eq_true] at hok
        rw [inQs_cv hr hok.1, inH_cv hr hok.2] at e
        obtain ⟨h2, e2⟩ := hcond c hmem
        rw [e] at e2
        injection e2 with e2
        injection e2
      rw [← h3 hp]
      exact h5 hp
    obtain ⟨_, kc⟩ := key tab0 v F hm hF
    obtain ⟨_, e1⟩ := kc cok0
    rw [inQs_cv hr ha.1, inH_cv hr ha.2, inT_cv hr ht] at e1
    exact e1
/-! ### a run that answers 'true' only where others do -/
def impQ (run : PC → Job → M SV) (pc : PC) (g : Nat) : List Job → M Unit
  | [] => ret ()
  | q :: r => bnd (run pc q) fun y => bnd (opt (asB y)) fun e => bnd (needS ((g, true) :: pc) e) fun _ => impQ run pc g r
theorem impQ_spec {F : Tab} {ρ : Nat → Int} {U : Nat → Vl → Vl} (hB : Base F ρ U) {run : PC → Job → M SV} {T : Job → Value → Prop} (h : ∀ pc c, Spec F (run pc c) (fun v => pcH F ρ U pc → T c (cv F ρ U v))) {pc : PC} {g : Nat} :
    ∀ (qs : List Job), Spec F (impQ run pc g qs) (fun _ => pcH F ρ U pc → tv F ρ U g = true → ∀ q ∈ qs, T q (.bool true))
  | [] => Spec.ret fun _ _ q hq => by cases hq
  | q :: r => by
    unfold impQ
    refine Spec.bnd (h pc q) fun y => Spec.bnd (optB hB) fun e => Spec.bnd (needS_spec hB) fun _ => (impQ_spec hB h r).mono fun _ h0 h1 h2 h3 hp hg => ?_
    intro q' hq'
    rcases List.mem_cons.1 hq' with rfl | hq'
    · have e1 := h1 (hp.cons hg)
      have e2 := h3 hp
      rw [h2, e1] at e2
      exact e2
    · exact h0 hp hg q' hq'
def impM (S : SFrn) (P : Program) (ext orc : List (Nat × SymF)) (us : List FuncId) (cf d m : Nat) (ws : List (IntKind × Nat)) (fs : List Fact) (a : Job) (qs : List Job) : M Unit :=
  bnd (mkVars m 0) fun _ => bnd (mkWr ws) fun _ => bnd (factsS fs) fun pc => bnd (@jobM S P ext orc us cf d pc a) fun x => bnd (opt (asB x)) fun g => impQ (@jobM S P ext orc us cf d) pc g qs
def okImp (m : Nat) (ws : List (IntKind × Nat)) : Option (Unit × Tab) → Bool
  | some (_, t) => (wfB t t.n && (Nat.blt 1 t.n && (Nat.beq (nodeAt t 0) 0 && Nat.beq (nodeAt t 1) 256))) && (varsOk t m && wrOk t m ws (m + 2))
  | none => false
def impB (S : SFrn) (P : Program) (ext orc : List (Nat × SymF)) (us : List FuncId) (cf d m : Nat) (ws : List (IntKind × Nat)) (fs : List Fact) (a : Job) (qs : List Job) : Bool :=
  (a.ok (m + ws.length) && ((qs.all fun c => Job.ok (m + ws.length) c) && fs.all fun f => inC (m + ws.length) f.1)) && okImp m ws (impM S P ext orc us cf d m ws fs a qs tab0)
theorem imp_run {S : SFrn} {P : Program} {ext orc : List (Nat × SymF)} {exte orce : Orc} {us : List FuncId} {cf d m : Nat} {ws : List (IntKind × Nat)} {fs : List Fact} {a : Job} {qs : List Job} (U : Nat → Vl → Vl) (ρ : Nat → Int)
    (hx : ∀ F, Base F ρ U → (∀ i, 2 ≤ i → i < m + ws.length + 2 → raw F ρ U i = gW ρ m ws i) → ListR F ρ U ext exte) (ho : ∀ F, Base F ρ U → (∀ i, 2 ≤ i → i < m + ws.length + 2 → raw F ρ U i = gW ρ m ws i) → ListR F ρ U orc orce)
    (hin : ∀ k, (S.row k).all (inC (m + ws.length)) = true) (h : impB S P ext orc us cf d m ws fs a qs = true) (hE : factsH (gW ρ m ws) fs) (ι : Frn) (hrow : ∀ k, ι.row k = (S.row k).map (conc (gW ρ m ws)))
    (hcn : ∀ F, Base F ρ U → (∀ i, 2 ≤ i → i < m + ws.length + 2 → raw F ρ U i = gW ρ m ws i) → ∀ f g, S.con f = some g → ∃ G, ι.con f = some G ∧ ∀ pc args h, Spec F (g pc args h) (fun v => pcH F ρ U pc → G (cvl F ρ U args) (hpc F ρ U h) = some (cv F ρ U v, [], true)))
    (ha : ∃ h', @funD ι P exte orce us cf d a.f (a.args.map (conc (gW ρ m ws))) (concH (gW ρ m ws) a.heap) = some (.bool true, h', true)) :
    ∀ q ∈ qs, ∃ h', @funD ι P exte orce us cf d q.f (q.args.map (conc (gW ρ m ws))) (concH (gW ρ m ws) q.heap) = some (.bool true, h', true) := by
  unfold impB at h
  simp only [Bool.and_eq_true] at h
  obtain ⟨⟨hja, hqs, hfs⟩, h⟩ := h
  cases hm : impM S P ext orc us cf d m ws fs a qs tab0 with
  | none => rw [hm] at h; cases h
  | some r =>
    obtain ⟨v, F⟩ := r
    rw [hm] at h
    have h : ((wfB F F.n && (Nat.blt 1 F.n && (Nat.beq (nodeAt F 0) 0 && Nat.beq (nodeAt F 1) 256))) && (varsOk F m && wrOk F m ws (m + 2))) = true := h
    simp only [Bool.and_eq_true] at h
    obtain ⟨⟨hw, hn, b0, b1⟩, hvo, hwo⟩ := h
    have hF := le_self hw
    have hn := bltT hn
    have hB : Base F ρ U := by
      refine ⟨?_, ?_⟩
      · rw [raw_at hF (i := 0) (by omega), beqT b0]; rfl
      · rw [raw_at hF (i := 1) hn, beqT b1]; rfl
    have hv : ∀ j, j < m → raw F ρ U (j + 2) = .i (ρ j) := vars_raw hF hvo
    have hr : ∀ i, 2 ≤ i → i < m + ws.length + 2 → raw F ρ U i = gW ρ m ws i := fun i h1 h2 => gW_raw hF hv hwo h1 h2
    have hfr : @FrnR ι S F ρ U := @FrnR.mk ι S F ρ U (fun k => (hrow k).trans (inCs_cv hr (hin k)).symm) (hcn F hB hr)
    have key : Spec F (impM S P ext orc us cf d m ws fs a qs) (fun _ => ∀ q ∈ qs, ∃ h1, @funD ι P exte orce us cf d q.f (cvl F ρ U q.args) (hpc F ρ U q.heap) = some (.bool true, h1, true) ∧ h1.take q.heap.length = hpc F ρ U q.heap) := by
      unfold impM
      refine Spec.bnd (mkVars_spec m 0) fun _ => Spec.bnd (mkWr_spec ws) fun _ => Spec.bnd (factsS_ok hB fs) fun pc => Spec.bnd (@jobM_spec ι S F ρ U hB hfr P ext orc exte orce us cf d (hx F hB hr) (ho F hB hr) pc a) fun x => Spec.bnd (optB hB) fun g =>
        (impQ_spec (T := fun c v => ∃ h', @funD ι P exte orce us cf d c.f (cvl F ρ U c.args) (hpc F ρ U c.heap) = some (v, h', true) ∧ h'.take c.heap.length = hpc F ρ U c.heap) hB
          (fun pc c => @jobM_spec ι S F ρ U hB hfr P ext orc exte orce us cf d (hx F hB hr) (ho F hB hr) pc c) qs).mono fun _ h0 h1 h2 h3 _ _ => ?_
      have hp := h3 (facts_cv hr hfs hE)
      refine h0 hp ?_
      obtain ⟨h', e, _⟩ := h2 hp
      obtain ⟨h4, e4⟩ := ha
      rw [Job.ok, Bool.and_eq_true] at hja
      rw [inQs_cv hr hja.1, inH_cv hr hja.2, h1, e4] at e
      injection e with e
      injection e with e
      injection e with e
      exact e.symm
    obtain ⟨_, kc⟩ := key tab0 v F hm hF
    obtain ⟨_, e1⟩ := kc cok0
    intro q hq
    obtain ⟨h1, e, _⟩ := e1 q hq
    have hok := List.all_eq_true.1 hqs q hq
    rw [Job.ok, Bool.and_eq_true] at hok
    rw [inQs_cv hr hok.1, inH_cv hr hok.2] at e
    exact ⟨h1, e⟩
end Sx
end
noncomputable section
namespace Sx
open Go Ev Go.RowKit

/-! ### functions that are told by a name alone, with several answers -/
def resTs (op i : Nat) : List Ty → Nat → M (List SV)
  | [], _ => ret []
  | y :: r, k => bnd (mk3 (Nat.add op k) i 0 0) fun q => bnd (resS1 y q) fun v => bnd (resTs op i r (k + 1)) fun l => ret (v :: l)
def resPs (op i : Nat) : List Par → Nat → M (List SV)
  | [], _ => ret []
  | .agg l :: r, k => bnd (resTs op i l k) fun vs => bnd (resPs op i r (k + l.length)) fun m => ret (.agg vs :: m)
  | .one y :: r, k => bnd (mk3 (Nat.add op k) i 0 0) fun q => bnd (resS1 y q) fun v => bnd (resPs op i r (k + 1)) fun m => ret (v :: m)
def uT (op : Nat) (ps qs : List Par) : SymF := fun _ args =>
  bnd (opt (flatPs ps args)) fun cs => bnd (chainS (tysPs ps) cs) fun i => bnd (resPs op i qs 0) fun l => ret (oneOrS l)
def flatA : List Par → List Value → List Value
  | .agg _ :: r, .agg cs :: s => cs.toList ++ flatA r s
  | .one _ :: r, v :: s => v :: flatA r s
  | _, _ => []
/-- the contract: 'G' of the arguments -/
def sigT (ps : List Par) (G : List Value → List Value) : Sig := fun args => bif fitA ps args then some (oneOr (G args), true) else none
/-- what the named function's k-th number is -/
def valT (ps qs : List Par) (G : List Value → List Value) (k : Nat) (z : Vl) : Vl := toVl ((tysPs qs).getD k .b) ((flatA qs (G (packPs ps (unch (tysPs ps) z)))).getD k undef)
theorem op_any {o : Nat} (h : 113 ≤ o) (ρ : Nat → Int) (U : Nat → Vl → Vl) (g : Nat → Vl) (a b c p : Nat) : opVal ρ U g o a b c p = U o (g a) := by
  unfold opVal
  repeat rw [if_neg (by omega)]
section
variable {F : Tab} {ρ : Nat → Int} {U : Nat → Vl → Vl}
theorem of_to {y : Ty} {v : Value} (h : fitV y v = true) : ofVl y (toVl y v) = v := by
  cases y with
  | f k =>
    cases v with
    | float k' b =>
      have h : sameK k k' = true := h
      rw [sameK_eq h]; rfl
    | _ => cases h
  | n k =>
    cases v with
    | int k' b =>
      have h : sameI k k' = true := h
      rw [sameI_eq h]; rfl
    | _ => cases h
  | b =>
    cases v with
    | bool b => cases b <;> rfl
    | _ => cases h
theorem resS1_spec (hB : Base F ρ U) {y : Ty} {q : Nat} : Spec F (resS1 y q) (fun v => cv F ρ U v = ofVl y (raw F ρ U q)) := by
  unfold resS1
  cases y with
  | f k => exact Spec.ret (cv_f _ _)
  | n k => exact Spec.ret (cv_n _ _)
  | b =>
    refine Spec.bnd (atomS_spec hB) fun r => Spec.ret fun h => ?_
    rw [cv_b, h]; rfl
theorem one_spec (hB : Base F ρ U) {op i k : Nat} {y : Ty} {v : Value} {T : List Ty} {W : List Value} (hop : ∀ (ρ : Nat → Int) (U : Nat → Vl → Vl) (g : Nat → Vl) (a b c p : Nat), opVal ρ U g (op + k) a b c p = U (op + k) (g a))
    (hU : U (op + k) (raw F ρ U i) = toVl (T.getD k .b) (W.getD k undef)) (hT : T[k]? = some y) (hW : W[k]? = some v) (hf : fitV y v = true) :
    Spec F (bnd (mk3 (Nat.add op k) i 0 0) fun q => resS1 y q) (fun r => cv F ρ U r = v) := by
  refine Spec.bnd (mk3_spec (ρ := ρ) (U := U)) fun q => (resS1_spec hB).mono fun r h1 h2 => ?_
  obtain ⟨p, hp⟩ := h2
  have hp : raw F ρ U q = opVal ρ U (raw F ρ U) (op + k) i 0 0 p := hp
  rw [h1, hp, hop, hU, List.getD_eq_getElem?_getD, List.getD_eq_getElem?_getD, hT, hW]
  exact of_to hf
theorem bnd_assoc {α β γ : Type} (m : M α) (f : α → M β) (g : β → M γ) : bnd (bnd m f) g = bnd m fun a => bnd (f a) g := by
  funext t
  unfold bnd
  cases m t with
  | none => rfl
  | some r => rfl
theorem resTs_spec (hB : Base F ρ U) {op i n : Nat} {T : List Ty} {W : List Value} (hop : ∀ k, k < n → ∀ (ρ : Nat → Int) (U : Nat → Vl → Vl) (g : Nat → Vl) (a b c p : Nat), opVal ρ U g (op + k) a b c p = U (op + k) (g a))
    (hU : ∀ k, k < n → U (op + k) (raw F ρ U i) = toVl (T.getD k .b) (W.getD k undef)) (hn : T.length = n) :
    ∀ (l : List Ty) (w : List Value) (k : Nat) (T' : List Ty) (W' : List Value), T.drop k = l ++ T' → W.drop k = w ++ W' → fitL l w = true → Spec F (resTs op i l k) (fun vs => cvl F ρ U vs = w)
  | [], [], k, T', W', _, _, _ => Spec.ret rfl
  | y :: l, v :: w, k, T', W', hT, hW, hf => by
    have hf : (fitV y v && fitL l w) = true := hf
    rw [Bool.and_eq_true] at hf
    have hTk : T[k]? = some y := by
      have : (T.drop k)[0]? = some y := by rw [hT]; rfl
      rwa [List.getElem?_drop, Nat.add_zero] at this
    have hWk : W[k]? = some v := by
      have : (W.drop k)[0]? = some v := by rw [hW]; rfl
      rwa [List.getElem?_drop, Nat.add_zero] at this
    have hk : k < n := by rw [← hn]; exact (List.getElem?_eq_some_iff.1 hTk).1
    have hT1 : T.drop (k + 1) = l ++ T' := by
      rw [← List.drop_drop, hT]; rfl
    have hW1 : W.drop (k + 1) = w ++ W' := by
      rw [← List.drop_drop, hW]; rfl
    unfold resTs
    rw [← bnd_assoc (mk3 (Nat.add op k) i 0 0) (fun q => resS1 y q)]
    refine Spec.bnd (one_spec hB (hop k hk) (hU k hk) hTk hWk hf.1) fun r => Spec.bnd (resTs_spec hB hop hU hn l w (k + 1) T' W' hT1 hW1 hf.2) fun vs => Spec.ret fun h1 h2 => ?_
    rw [cvl_cons, h1, h2]
  | [], _ :: _, _, _, _, _, _, hf => by cases hf
  | _ :: _, [], _, _, _, _, _, hf => by cases hf
theorem fitL_len : ∀ {l : List Ty} {w : List Value}, fitL l w = true → w.length = l.length
  | [], [], _ => rfl
  | y :: l, v :: w, h => by
    have h : (fitV y v && fitL l w) = true := h
    rw [Bool.and_eq_true] at h
    rw [List.length_cons, List.length_cons, fitL_len h.2]
  | [], _ :: _, h => by cases h
  | _ :: _, [], h => by cases h
theorem fitP_one {y : Ty} {v : Value} (h : fitP (.one y) v = true) : fitV y v = true := by
  cases v <;> exact h
theorem resPs_spec (hB : Base F ρ U) {op i n : Nat} {T : List Ty} {W : List Value} (hop : ∀ k, k < n → ∀ (ρ : Nat → Int) (U : Nat → Vl → Vl) (g : Nat → Vl) (a b c p : Nat), opVal ρ U g (op + k) a b c p = U (op + k) (g a))
    (hU : ∀ k, k < n → U (op + k) (raw F ρ U i) = toVl (T.getD k .b) (W.getD k undef)) (hn : T.length = n) :
    ∀ (qs : List Par) (ws : List Value) (k : Nat), T.drop k = tysPs qs → W.drop k = flatA qs ws → fitA qs ws = true → Spec F (resPs op i qs k) (fun vs => cvl F ρ U vs = ws)
  | [], [], k, _, _, _ => Spec.ret rfl
  | .agg l :: r, v :: s, k, hT, hW, hf => by
    have hf : (fitP (.agg l) v && fitA r s) = true := hf
    rw [Bool.and_eq_true] at hf
    cases v with
    | agg cs =>
      have hfl : fitL l cs.toList = true := hf.1
      have hT1 : T.drop (k + l.length) = tysPs r := by
        rw [← List.drop_drop, hT]
        exact List.drop_left
      have hW1 : W.drop (k + l.length) = flatA r s := by
        rw [← List.drop_drop, hW, ← fitL_len hfl]
        exact List.drop_left
      unfold resPs
      refine Spec.bnd (resTs_spec hB hop hU hn l cs.toList k (tysPs r) (flatA r s) hT hW hfl) fun vs => Spec.bnd (resPs_spec hB hop hU hn r s (k + l.length) hT1 hW1 hf.2) fun m => Spec.ret fun h1 h2 => ?_
      rw [cvl_cons, cv_agg, h1, h2]
    | _ => cases hf.1
  | .one y :: r, v :: s, k, hT, hW, hf => by
    have hf : (fitP (.one y) v && fitA r s) = true := hf
    rw [Bool.and_eq_true] at hf
    have hTk : T[k]? = some y := by
      have : (T.drop k)[0]? = some y := by rw [hT]; rfl
      rwa [List.getElem?_drop, Nat.add_zero] at this
    have hWk : W[k]? = some v := by
      have : (W.drop k)[0]? = some v := by rw [hW]; rfl
      rwa [List.getElem?_drop, Nat.add_zero] at this
    have hk : k < n := by rw [← hn]; exact (List.getElem?_eq_some_iff.1 hTk).1
    have hT1 : T.drop (k + 1) = tysPs r := by rw [← List.drop_drop, hT]; rfl
    have hW1 : W.drop (k + 1) = flatA r s := by rw [← List.drop_drop, hW]; rfl
    unfold resPs
    rw [← bnd_assoc (mk3 (Nat.add op k) i 0 0) (fun q => resS1 y q)]
    refine Spec.bnd (one_spec hB (hop k hk) (hU k hk) hTk hWk (fitP_one hf.1)) fun r' => Spec.bnd (resPs_spec hB hop hU hn r s (k + 1) hT1 hW1 hf.2) fun m => Spec.ret fun h1 h2 => ?_
    rw [cvl_cons, h1, h2]
  | [], _ :: _, _, _, _, hf => by cases hf
  | _ :: _, [], _, _, _, hf => by cases hf
theorem resTs_any (hB : Base F ρ U) {op i : Nat} : ∀ (l : List Ty) (k : Nat), Spec F (resTs op i l k) (fun _ => True)
  | [], _ => Spec.ret trivial
  | y :: l, k => by
    unfold resTs
    exact Spec.bnd (mk3_spec (ρ := ρ) (U := U)) fun q => Spec.bnd (resS1_spec hB) fun v => Spec.bnd (resTs_any hB l (k + 1)) fun _ => Spec.ret fun _ _ _ => trivial
theorem resPs_any (hB : Base F ρ U) {op i : Nat} : ∀ (qs : List Par) (k : Nat), Spec F (resPs op i qs k) (fun _ => True)
  | [], _ => Spec.ret trivial
  | .agg l :: r, k => by
    unfold resPs
    exact Spec.bnd (resTs_any hB l k) fun _ => Spec.bnd (resPs_any hB r _) fun _ => Spec.ret fun _ _ => trivial
  | .one y :: r, k => by
    unfold resPs
    exact Spec.bnd (mk3_spec (ρ := ρ) (U := U)) fun q => Spec.bnd (resS1_spec hB) fun v => Spec.bnd (resPs_any hB r _) fun _ => Spec.ret fun _ _ _ => trivial
theorem uT_ok (hB : Base F ρ U) {op : Nat} {ps qs : List Par} {G : List Value → List Value} (hop : ∀ k, k < (tysPs qs).length → ∀ (ρ : Nat → Int) (U : Nat → Vl → Vl) (g : Nat → Vl) (a b c p : Nat), opVal ρ U g (op + k) a b c p = U (op + k) (g a))
    (hU : ∀ k, k < (tysPs qs).length → ∀ z, U (op + k) z = valT ps qs G k z) (hG : ∀ args, fitA ps args = true → fitA qs (G args) = true) : SymOk F ρ U (sigT ps G) (uT op ps qs) := fun pc args => by
  unfold uT
  have key : ∀ cs i, Spec F (bnd (resPs op i qs 0) fun l => ret (oneOrS l)) (fun v => unch (tysPs ps) (raw F ρ U i) = cvl F ρ U cs ∧ fitL (tysPs ps) (cvl F ρ U cs) = true → flatPs ps args = some cs → sigT ps G (cvl F ρ U args) = some (cv F ρ U v, true)) := fun cs i => by
    by_cases hi : (unch (tysPs ps) (raw F ρ U i) = cvl F ρ U cs ∧ fitL (tysPs ps) (cvl F ρ U cs) = true) ∧ flatPs ps args = some cs
    · obtain ⟨hi, hcs⟩ := hi
      obtain ⟨g1, g2⟩ := flatPs_spec hcs hi.2
      have hpk : packPs ps (unch (tysPs ps) (raw F ρ U i)) = cvl F ρ U args := by rw [hi.1, g1]
      refine Spec.bnd (resPs_spec hB (n := (tysPs qs).length) (T := tysPs qs) (W := flatA qs (G (cvl F ρ U args))) hop (fun k hk => by rw [hU k hk, valT, hpk]) rfl qs (G (cvl F ρ U args)) 0 rfl rfl (hG _ g2)) fun l => Spec.ret fun h _ _ => ?_
      unfold sigT
      rw [g2, cond_true, ← h, oneOr_spec]
    · exact Spec.bnd (resPs_any hB qs 0) fun l => Spec.ret fun _ h1 h2 => absurd ⟨h1, h2⟩ hi
  refine Spec.bnd Spec.opt fun cs => Spec.bnd (chainS_spec hB _ _) fun i => (key cs i).mono fun v h h1 h2 _ => h h1 h2
end
end Sx
end
