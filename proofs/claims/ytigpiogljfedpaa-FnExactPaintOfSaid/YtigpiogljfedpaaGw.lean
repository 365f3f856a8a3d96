/-
  Laws over one shelf: two runs that lean on what a third one answers. No condition.
-/
import Derived.Test.YtigpiogljfedpaaGu
set_option linter.unusedSectionVars false
noncomputable section
namespace Go.Proofs.Ytigpiogljfedpaa
open Go Go.ChangeShapes Go.WideShapes Go.ChangeAt Go.RowKit Ev Sx

theorem seekA_head {F : Tab} {ρ : Nat → Int} {U : Nat → Vl → Vl} {sh xm : List SV} {r : SV} {l m fm : Nat} {ts : List Value} {g0 : Nat → Vl} (hr : ∀ i, 2 ≤ i → i < m + 2 → raw F ρ U i = g0 i) (hsh : cvl F ρ U sh = tok 0 l 0 :: ts) {f : FuncId} {g : List (Nat × Bool) → List SV → HeapS → M SV}
    {L : List KnS} (hL : (L.all fun c => c.2.1.all (inQ m) && inQ m c.2.2) = true) (hx : xm.all (inQ m) = true) (h : seekA sh ((fm, xm, r) :: L) f = some g) :
    ∃ G, conX3 l ts true ((fm, xm.map (conc g0), cv F ρ U r) :: L.map (knC g0)) f = some G ∧ ∀ pc args h, Sx.Spec F (g pc args h) (fun v => pcH F ρ U pc → G (cvl F ρ U args) (hpc F ρ U h) = some (cv F ρ U v, [], true)) := by
  unfold seekA at h
  cases h1 : Nat.beq f fm with
  | true =>
    rw [h1, cond_true, Option.some.injEq] at h
    subst h
    refine ⟨anCon l ts (xm.map (conc g0)) (cv F ρ U r), by show (bif Nat.beq f fm then _ else _) = _; rw [h1, cond_true], fun pc args h => ?_⟩
    unfold anS
    split
    · rename_i q us
      refine Spec.gd fun hq => Spec.ret fun _ => ?_
      rw [Bool.and_eq_true] at hq
      have e1 := allEq_cv (F := F) (ρ := ρ) (U := U) hq.1
      have e2 := allEq_cv (F := F) (ρ := ρ) (U := U) hq.2
      rw [hsh] at e1
      rw [inQs_cv hr hx] at e2
      rw [cvl_cons, cv_agg, e1, e2]
      show some (cv F ρ U r, [], isB (l = l ∧ ts = ts ∧ xm.map (conc g0) = xm.map (conc g0))) = _
      rw [isB_of ⟨rfl, rfl, rfl⟩]
    · exact Spec.non
  | false =>
    rw [h1, cond_false] at h
    obtain ⟨G, hG, k⟩ := seekA_ok hr hsh hL h
    refine ⟨G, ?_, k⟩
    show (bif Nat.beq f fm then _ else _) = _
    rw [h1, cond_false]
    exact hG
section
variable {ak : List AK} {n : Nat} {cs xs : List Value} {t0 t1 t2 t3 t4 t5 : Int}
def g4 (ak : List AK) (exts1 orcs1 : List (Nat × SymF)) (us1 : List FuncId) (cf1 d1 : Nat) (cds : List (Job × Bool)) (exts2 orcs2 : List (Nat × SymF)) (us2 : List FuncId) (cf2 d2 : Nat) (c : Job) (fm : Nat) (xm : List SV) (exts orcs : List (Nat × SymF)) (us : List FuncId) (cf d : Nat) (fs : List Fact) (L : List KnS) (a b : Job) (ps : List Par) (n : Nat) : Bool :=
  (((vsRow n).all (inC (gN ak n + (gWs ak n).length)) && ((gSh ak n).all (inC (gN ak n + (gWs ak n).length)) && (gArgs ak n).all okBox)) && ((L.all fun c => c.2.1.all (inQ (gN ak n + (gWs ak n).length)) && inQ (gN ak n + (gWs ak n).length) c.2.2) && xm.all (inQ (gN ak n + (gWs ak n).length)))) &&
    pair4B (gF ak n) (gF2 ak n L) (fun r => gF2 ak n ((fm, xm, r) :: L)) Try.prog exts1 orcs1 us1 cf1 d1 cds exts2 orcs2 us2 cf2 d2 c exts orcs us cf d (gN ak n) (gWs ak n) fs a b ps
theorem g4_run {exts1 orcs1 : List (Nat × SymF)} {exte1 orce1 : Orc} {us1 : List FuncId} {cf1 d1 : Nat} {cds : List (Job × Bool)} {exts2 orcs2 : List (Nat × SymF)} {exte2 orce2 : Orc} {us2 : List FuncId} {cf2 d2 : Nat} {c : Job} {fm : Nat} {xm : List SV}
    {exts orcs : List (Nat × SymF)} {exte orce : Orc} {us : List FuncId} {cf d : Nat} {fs : List Fact} {L : List KnS} {a b : Job} {ps : List Par} (U : Nat → Vl → Vl) {W : Value}
    (h : g4 ak exts1 orcs1 us1 cf1 d1 cds exts2 orcs2 us2 cf2 d2 c fm xm exts orcs us cf d fs L a b ps n = true)
    (hx1 : ∀ F ρ, Base F ρ U → ListR F ρ U exts1 exte1) (ho1 : ∀ F ρ, Base F ρ U → ListR F ρ U orcs1 orce1) (hx2 : ∀ F ρ, Base F ρ U → ListR F ρ U exts2 exte2) (ho2 : ∀ F ρ, Base F ρ U → ListR F ρ U orcs2 orce2) (hx : ∀ F ρ, Base F ρ U → ListR F ρ U exts exte) (ho : ∀ F ρ, Base F ρ U → ListR F ρ U orcs orce)
    (hb : rowsB pigK n cs = true) (hw : cs.all wfC = true) (htw : (tins t0 t1 t2 t3 t4 t5).all wfC = true) (hE : factsH (gG ak n cs (tins t0 t1 t2 t3 t4 t5) xs) fs) (hc : CdOk ak n cs xs t0 t1 t2 t3 t4 t5 exte1 orce1 us1 cf1 d1 cds)
    (hW : ∀ base v, ∃ h', @funD (frnOf base (tk1 v n cs) (conX3 n (tins t0 t1 t2 t3 t4 t5) true (L.map (knC (gG ak n cs (tins t0 t1 t2 t3 t4 t5) xs))))) Try.prog exte2 orce2 us2 cf2 d2 c.f (c.args.map (conc (gG ak n cs (tins t0 t1 t2 t3 t4 t5) xs))) (concH (gG ak n cs (tins t0 t1 t2 t3 t4 t5) xs) c.heap) = some (W, h', true)) :
    (gArgs ak n).all okBox = true ∧ ∃ V, fitR ps V ∧ ∀ base v,
      (∃ h1, @funD (frnOf base (tk1 v n cs) (conX3 n (tins t0 t1 t2 t3 t4 t5) true ((fm, xm.map (conc (gG ak n cs (tins t0 t1 t2 t3 t4 t5) xs)), W) :: L.map (knC (gG ak n cs (tins t0 t1 t2 t3 t4 t5) xs))))) Try.prog exte orce us cf d a.f (a.args.map (conc (gG ak n cs (tins t0 t1 t2 t3 t4 t5) xs))) (concH (gG ak n cs (tins t0 t1 t2 t3 t4 t5) xs) a.heap) = some (V, h1, true) ∧ h1.take a.heap.length = concH (gG ak n cs (tins t0 t1 t2 t3 t4 t5) xs) a.heap) ∧
      ∃ h2, @funD (frnOf base (tk1 v n cs) (conX3 n (tins t0 t1 t2 t3 t4 t5) true ((fm, xm.map (conc (gG ak n cs (tins t0 t1 t2 t3 t4 t5) xs)), W) :: L.map (knC (gG ak n cs (tins t0 t1 t2 t3 t4 t5) xs))))) Try.prog exte orce us cf d b.f (b.args.map (conc (gG ak n cs (tins t0 t1 t2 t3 t4 t5) xs))) (concH (gG ak n cs (tins t0 t1 t2 t3 t4 t5) xs) b.heap) = some (V, h2, true) ∧ h2.take b.heap.length = concH (gG ak n cs (tins t0 t1 t2 t3 t4 t5) xs) b.heap := by
  unfold g4 at h
  rw [Bool.and_eq_true, Bool.and_eq_true, Bool.and_eq_true, Bool.and_eq_true, Bool.and_eq_true] at h
  obtain ⟨⟨⟨h1, h2, h3⟩, hL, hxm⟩, h4⟩ := h
  refine ⟨h3, ?_⟩
  have hrows : ∀ k, ((bif Nat.beq k 0 then vsRow n else []) : List SV).all (inC (gN ak n + (gWs ak n).length)) = true := fun k => by
    cases Nat.beq k 0
    · rfl
    · exact h1
  obtain ⟨V, hV, hf⟩ := pair4_run (S1 := gF ak n) (S2 := gF2 ak n L) (S3 := fun r => gF2 ak n ((fm, xm, r) :: L)) (P := Try.prog) (exte1 := exte1) (orce1 := orce1) (exte2 := exte2) (orce2 := orce2) (exte := exte) (orce := orce) U (rhoV (gVal cs (tins t0 t1 t2 t3 t4 t5) xs)) (fun F hB _ => hx1 F _ hB) (fun F hB _ => ho1 F _ hB) (fun F hB _ => hx2 F _ hB) (fun F hB _ => ho2 F _ hB) (fun F hB _ => hx F _ hB) (fun F hB _ => ho F _ hB) hrows hrows (fun _ => hrows) h4 hE
  refine ⟨V, hV, fun base v => ?_⟩
  have hrow : ∀ k, (frnOf base (tk1 v n cs) (conV n (tins t0 t1 t2 t3 t4 t5) true)).row k = ((gF ak n).row k).map (conc (gG ak n cs (tins t0 t1 t2 t3 t4 t5) xs)) := fun k => by
    match k with
    | 0 => exact (gRow_conc _ hb hw).symm
    | k + 1 => rfl
  exact hf (frnOf base (tk1 v n cs) (conV n (tins t0 t1 t2 t3 t4 t5) true)) (frnOf base (tk1 v n cs) (conX3 n (tins t0 t1 t2 t3 t4 t5) true (L.map (knC (gG ak n cs (tins t0 t1 t2 t3 t4 t5) xs)))))
    (fun W => frnOf base (tk1 v n cs) (conX3 n (tins t0 t1 t2 t3 t4 t5) true ((fm, xm.map (conc (gG ak n cs (tins t0 t1 t2 t3 t4 t5) xs)), W) :: L.map (knC (gG ak n cs (tins t0 t1 t2 t3 t4 t5) xs))))) W hrow hrow (fun _ _ => hrow)
    (fun F hB hr f g hc => gCon_ok (by rw [inCs_cv hr h2]; exact gSh_conc hb htw) hc) (fun F hB hr f g hc => seekA_ok hr (by rw [inCs_cv hr h2]; exact gSh_conc hb htw) hL hc)
    (fun F hB hr r f g hc => seekA_head hr (by rw [inCs_cv hr h2]; exact gSh_conc hb htw) hL hxm hc) (hc base v) (hW base v)
end
end Go.Proofs.Ytigpiogljfedpaa
end
