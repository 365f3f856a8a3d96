/-
  Gauges: a contract that reads memory: is it valid. No condition.
-/
import Derived.Test.YtljmhdaphpdkgaaJa
set_option linter.unusedSectionVars false
set_option linter.unusedVariables false
noncomputable section
namespace Go.Proofs.Ytljmhdaphpdkgaa
namespace Lg
open Go Go.ChangeShapes Go.WideShapes Go.ChangeAt Go.RowKit Ev Sx

def zN (cs : List Value) (j : Nat) : Int := match cs.getD j undef with
  | .int _ n => n
  | _ => 0
def fN (cs : List Value) (j : Nat) : Nat := match cs.getD j undef with
  | .float _ b => b
  | _ => 0
def isG (cs : List Value) : Bool := fitL (List.replicate 32 (Ty.n .i16) ++ List.replicate 17 (Ty.f .f32)) cs
theorem fit_int : ∀ {n : Nat} {r : List Ty} {cs : List Value}, fitL (List.replicate n (Ty.n .i16) ++ r) cs = true → (∀ j, j < n → ∃ x, cs[j]? = some (.int .i16 x)) ∧ fitL r (cs.drop n) = true
  | 0, r, cs, h => ⟨fun j hj => absurd hj (by omega), h⟩
  | n + 1, r, [], h => by cases h
  | n + 1, r, v :: cs, h => by
    have h : (fitV (.n .i16) v && fitL (List.replicate n (Ty.n .i16) ++ r) cs) = true := h
    rw [Bool.and_eq_true] at h
    obtain ⟨h1, h2⟩ := fit_int h.2
    refine ⟨fun j hj => ?_, h2⟩
    match j with
    | 0 =>
      cases v with
      | int k x =>
        have h0 : sameI .i16 k = true := h.1
        have := sameI_eq h0
        subst this
        exact ⟨x, rfl⟩
      | _ => cases h.1
    | j + 1 => exact h1 j (by omega)
theorem fit_fl : ∀ {n : Nat} {cs : List Value}, fitL (List.replicate n (Ty.f .f32)) cs = true → cs.length = n ∧ ∀ j, j < n → ∃ x, cs[j]? = some (.float .f32 x)
  | 0, [], _ => ⟨rfl, fun j hj => absurd hj (by omega)⟩
  | 0, _ :: _, h => by cases h
  | n + 1, [], h => by cases h
  | n + 1, v :: cs, h => by
    have h : (fitV (.f .f32) v && fitL (List.replicate n (Ty.f .f32)) cs) = true := h
    rw [Bool.and_eq_true] at h
    obtain ⟨h1, h2⟩ := fit_fl h.2
    refine ⟨by rw [List.length_cons, h1], fun j hj => ?_⟩
    match j with
    | 0 =>
      cases v with
      | float k x =>
        have h0 : sameK .f32 k = true := h.1
        have := Ev.sameK_eq h0
        subst this
        exact ⟨x, rfl⟩
      | _ => cases h.1
    | j + 1 => exact h2 j (by omega)
theorem gr_of {cs : List Value} (h : isG cs = true) : cs = gr (zN cs) (fN cs) := by
  obtain ⟨h1, h2⟩ := fit_int h
  obtain ⟨h3, h4⟩ := fit_fl h2
  have hl : cs.length = 49 := by rw [List.length_drop] at h3; omega
  refine List.ext_getElem? fun j => ?_
  unfold gr
  rw [List.getElem?_map]
  by_cases hj : j < 49
  · rw [List.getElem?_range hj, Option.map_some]
    by_cases hj2 : j < 32
    · obtain ⟨x, hx⟩ := h1 j hj2
      have hb : Nat.blt j 32 = true := by rw [Nat.blt_eq]; exact hj2
      rw [hb, cond_true, hx]
      unfold zN
      rw [List.getD_eq_getElem?_getD, hx]; rfl
    · obtain ⟨x, hx⟩ := h4 (j - 32) (by omega)
      rw [List.getElem?_drop, show 32 + (j - 32) = j by omega] at hx
      have hb : Nat.blt j 32 = false := by
        cases h : Nat.blt j 32 with
        | false => rfl
        | true => rw [Nat.blt_eq] at h; exact absurd h hj2
      rw [hb, cond_false, hx]
      unfold fN
      rw [List.getD_eq_getElem?_getD, hx]; rfl
  · rw [List.getElem?_eq_none (by omega), List.getElem?_eq_none (by simp; omega)]; rfl
theorem gr_bare (z : Nat → Int) (f : Nat → Nat) : (gr z f).all bareC = true := by kernel_rfl
theorem isG_bare {cs : List Value} (h : isG cs = true) : cs.all bareC = true := by rw [gr_of h]; exact gr_bare _ _
def okC (cs : List Value) : Bool := okG (zN cs) (fN cs)
abbrev ConF := List Value → Heap → Option (Value × List (List Value) × Bool)
def okM : ConF := fun args h => match args with
  | [.pointer (some ⟨b, 0, none⟩)] => match h.getD b none with
    | some r => some (.bool (okC r), [], isG r)
    | none => none
  | _ => none
def okO : Sig
  | [.agg cs] => some (.bool (okC cs.toList), isG cs.toList)
  | _ => none
theorem usG_ok : usG.all (funcOk Try.prog) = true := by kernel_rfl
theorem okO_bare : BareSig okO := fun args v he => by
  unfold okO at he
  split at he
  · rename_i cs
    simp only [Option.some.injEq, Prod.mk.injEq] at he
    obtain ⟨rfl, hk⟩ := he
    have hb : bareP (.agg cs) = true := isG_bare hk
    refine ⟨?_, rfl⟩
    rw [List.all_cons, hb]; rfl
  · cases he
theorem arr_of {cs : Array Value} (h : isG cs.toList = true) : cs = (gr (zN cs.toList) (fN cs.toList)).toArray := Array.ext' (gr_of h)
theorem okO_one {ι : Frn} : @OrcOne ι Try.prog 29 okO := by
  refine orc_any (?_ : @OrcOne noFrn Try.prog 29 okO) okO_bare
  refine orc_one (us := usG) (cf := 300) (d := 30) mixed usG_ok (l0 := []) (lx := []) all_nil all_nil (by kernel_rfl) fun args v k he hk hx => ?_
  unfold okO at he
  split at he
  · rename_i cs
    simp only [Option.some.injEq, Prod.mk.injEq] at he
    obtain ⟨rfl, rfl⟩ := he
    have e := (okG_spec (zN cs.toList) (fN cs.toList)).2
    rw [← arr_of hk] at e
    refine ⟨?_, rfl, e⟩
    rw [arr_of hk]; rfl
  · cases he
theorem noX {ι : Frn} {P : Program} : @ExtOk ι P (fun f => seek f []) := fun f g e => by cases e
theorem noG_ok {P : Program} : @ConOk noFrn P := fun f g h => by
  have h : (none : Option ConF) = some g := h
  cases h
theorem row_at {ι : Frn} {μ : Mu} {h : Heap} {w : World} {B b b' : Nat} {r : List Value} (hh : @HeapR ι μ h w B) (hr : h.getD b none = some r) (hb : r.all bareC = true) (hm : μ b = some b') : RowIn w (.slice (some ⟨b', 0, none⟩) 1 1) 1 r := by
  have := local_row hh (@VR.slice ι μ b 0 b' 1 1 1 hm (Or.inl rfl)) hr hb
  rwa [List.drop_zero] at this
theorem noT_ok {base : Nat} {ts : Toks} {P : Program} : @ConOk (frnOf base ts noFG) P := fun f g h => by
  have h : (none : Option ConF) = some g := h
  cases h
abbrev iR (w : World) (b' : Nat) (r : List Value) : Frn := frnOf w.heap.size [(.slice (some ⟨b', 0, none⟩) 1 1, 1, r)] noFG
theorem run_at {us : List Nat} (hus : us.all (funcOk Try.prog) = true) {f : Nat} {args cargs : List Value} {v : Value} {r : List Value} {w : World} {b' : Nat} (hrow : RowIn w (.slice (some ⟨b', 0, none⟩) 1 1) 1 r)
    (e : ∃ h', @funD (iR w b' r) Try.prog (fun f => seek f []) (fun f => seek f []) us 300 30 f args [] = some (v, h', true))
    (ha : @VRL (iR w b' r) Mu.nil args cargs) (hv : bareP v = true) {ι0 : Frn} {μ0 : Mu} :
    Calls Try.prog f cargs.toArray w fun e w' => ∃ u, e = .returned u ∧ @VR ι0 μ0 v u ∧ Below w.heap.size w w' := by
  obtain ⟨h', e⟩ := e
  have hE : @CallOk (iR w b' r) Try.prog (@funD (iR w b' r) Try.prog (fun f => seek f []) (fun f => seek f []) us 300 30) := @EnvOk.call (iR w b' r) _ (@fun_goes (iR w b' r) Try.prog (fun f => seek f []) (fun f => seek f []) us 300 mixed hus noX (@orc_list (iR w b' r) _ [] all_nil) noT_ok 30)
  have hin : @FrnIn (iR w b' r) w := frn_in fun k v l cs' hk => by
    match k, hk with
    | 0, hk => cases hk; exact hrow
  refine (hE _ _ _ _ _ _ e rfl Mu.nil cargs w w.heap.size ha (@HeapR.start (iR w b' r) w hin) (Nat.le_refl _)).mono fun e w' hx => ?_
  obtain ⟨u, μ', rfl, _, hu, _, hb⟩ := hx
  exact ⟨u, rfl, bareP_VR hu hv, hb⟩
/-- two contracts on one call speak of one end -/
theorem agree {P : Program} {f : FuncId} {args : Array Value} {w : World} {R R' : Value → Prop} (h : Calls P f args w fun e _ => ∃ v, e = .returned v ∧ R v) (h' : Calls P f args w fun e _ => ∃ v, e = .returned v ∧ R' v) (hi : P.inits.idxOf? f = none) : ∃ v, R v ∧ R' v := by
  have g : Calls P f args w fun | .returned v, w' => R v | _, _ => False := h.mono fun e w' hx => by
    obtain ⟨v, rfl, hv⟩ := hx
    exact hv
  have g' : Calls P f args w fun | .returned v, w' => R' v | _, _ => False := h'.mono fun e w' hx => by
    obtain ⟨v, rfl, hv⟩ := hx
    exact hv
  obtain ⟨n, v, w1, e1, r1⟩ := g.done hi
  obtain ⟨m, v', w2, e2, r2⟩ := g'.done hi
  have a := runN_ended e1 m
  have b := runN_ended e2 n
  rw [Nat.add_comm, a] at b
  injection b with ho hw
  injection ho with hv
  subst hv
  exact ⟨_, r1, r2⟩
theorem con1 {ι : Frn} {μ : Mu} {x : Value} {ys : List Value} (h : @VRL ι μ [x] ys) : ∃ y, ys = [y] ∧ @VR ι μ x y := by
  match ys, h with
  | [], h => exact absurd h.1 (by simp)
  | [y], h => exact ⟨y, rfl, @VRL.head ι _ _ _ _ _ h⟩
  | _ :: _ :: _, h => exact absurd h.1 (by simp)
theorem con2 {ι : Frn} {μ : Mu} {x x2 : Value} {ys : List Value} (h : @VRL ι μ [x, x2] ys) : ∃ y y2, ys = [y, y2] ∧ @VR ι μ x y ∧ @VR ι μ x2 y2 := by
  match ys, h with
  | [], h => exact absurd h.1 (by simp)
  | [_], h => exact absurd h.1 (by simp)
  | [y, y2], h => exact ⟨y, y2, rfl, @VRL.head ι _ _ _ _ _ h, @VRL.head ι _ _ _ _ _ (@VRL.tail ι _ _ _ _ _ h)⟩
  | _ :: _ :: _ :: _, h => exact absurd h.1 (by simp)
theorem vl1 {ι : Frn} {μ : Mu} {x y : Value} (h : @VR ι μ x y) : @VRL ι μ [x] [y] := @VRL.cons ι _ _ _ _ _ h (@VRL.nil ι _)
theorem vl2 {ι : Frn} {μ : Mu} {x y x2 y2 : Value} (h : @VR ι μ x y) (h2 : @VR ι μ x2 y2) : @VRL ι μ [x, x2] [y, y2] := @VRL.cons ι _ _ _ _ _ h (vl1 h2)
theorem ptr_inv {ι : Frn} {μ : Mu} {b b' : Nat} {y : Value} (h : @VR ι μ (.pointer (some ⟨b, 0, none⟩)) y) (hb : μ b = some b') : y = .pointer (some ⟨b', 0, none⟩) := by
  cases h with
  | ptr b o b2 hm =>
    rw [hb] at hm
    cases hm; rfl
theorem fin {ι : Frn} {μ : Mu} {h : Heap} {w : World} {B : Nat} {f : Nat} {cargs : List Value} {v : Value} (hh : @HeapR ι μ h w B) (hB : B ≤ w.heap.size)
    (hc : Calls Try.prog f cargs.toArray w fun e w' => ∃ u, e = .returned u ∧ @VR ι μ v u ∧ Below w.heap.size w w') :
    Calls Try.prog f cargs.toArray w fun e w' => ∃ v' μ', e = .returned v' ∧ Sub μ μ' ∧ @VR ι μ' v v' ∧ @HeapR ι μ' (h ++ ([] : List (List Value)).map some) w' B ∧ Below B w w' := by
  refine hc.mono fun e w' hx => ?_
  obtain ⟨u, rfl, hu, hbl⟩ := hx
  refine ⟨u, μ, rfl, Sub.refl μ, hu, ?_, hbl.mono hB⟩
  rw [List.map_nil, List.append_nil]
  exact @HeapR.keep ι _ _ _ _ _ hh hB hbl
theorem val_at {ι : Frn} {μ : Mu} {h : Heap} {w : World} {B b : Nat} {r : List Value} (hh : @HeapR ι μ h w B) (hr : h.getD b none = some r) (hk : isG r = true) :
    ∃ (b' : Nat) (cs' : Array Value), μ b = some b' ∧ RowIn w (.slice (some ⟨b', 0, none⟩) 1 1) 1 r ∧ ∀ (ι2 : Frn) (μ2 : Mu), @VR ι2 μ2 (.agg r.toArray) (.agg cs') := by
  obtain ⟨b', cs', T, h1, _, _, h4⟩ := hh.dom b r hr
  refine ⟨b', (cs'.toList.take r.length).toArray, h1, row_at hh hr (isG_bare hk) h1, fun ι2 μ2 => ?_⟩
  have : @VR ι μ (.agg r.toArray) (.agg (cs'.toList.take r.length).toArray) := @VR.agg ι μ r.toArray (cs'.toList.take r.length).toArray h4.1 h4.2
  exact bareP_VR this (isG_bare hk)
theorem ok_at {ι : Frn} {μ : Mu} {h : Heap} {w : World} {B b : Nat} {r : List Value} (hh : @HeapR ι μ h w B) (hr : h.getD b none = some r) (hk : isG r = true) :
    ∃ b', μ b = some b' ∧ Calls Try.prog 26 #[.pointer (some ⟨b', 0, none⟩)] w fun e w' => ∃ u, e = .returned u ∧ @VR ι μ (.bool (okC r)) u ∧ Below w.heap.size w w' := by
  obtain ⟨b', cs', hb, hrow, hv⟩ := val_at hh hr hk
  obtain ⟨bF, hF⟩ := g_valF (zN r) (fN r)
  obtain ⟨e1, e2⟩ := hF w.heap.size (.slice (some ⟨b', 0, none⟩) 1 1)
  rw [← gr_of hk] at e1 e2
  have c1 := run_at usG_ok hrow e1 (vl1 (ptr_VR (k := 0) (o := 0) rfl)) rfl (ι0 := ι) (μ0 := μ)
  have c2 := run_at usG_ok hrow e2 (vl1 (hv _ _)) rfl (ι0 := ι) (μ0 := μ)
  have c3 := (@okO_one noFrn).2 [.agg r.toArray] (.bool (okC r)) true (by show some (Value.bool (okC r), isG r) = _; rw [hk]) rfl Mu.nil [.agg cs'] w (vl1 (hv _ _)) (noIn w)
  obtain ⟨v, r1, r2⟩ := agree (R := fun v => v = .bool bF) (R' := fun v => v = .bool (okC r)) (c2.mono fun e w' hx => by
      obtain ⟨u, rfl, hu, _⟩ := hx
      exact ⟨u, rfl, @VR.bool_inv _ _ _ _ hu⟩) (c3.mono fun e w' hx => by
      obtain ⟨u, rfl, hu, _⟩ := hx
      exact ⟨u, rfl, @VR.bool_inv noFrn _ _ _ hu⟩) (by kernel_rfl)
  rw [r1] at r2
  injection r2 with r2
  rw [r2] at c1
  exact ⟨b', hb, c1⟩
theorem fl_inv {ι : Frn} {μ : Mu} {k : FloatKind} {a : Nat} {y : Value} (h : @VR ι μ (.float k a) y) : ∃ x, y = .float k x ∧ a = cn k x := by
  cases h with
  | float k a x h => exact ⟨x, rfl, h⟩
theorem okM_ok {ι : Frn} : ConSpec ι 26 okM := ⟨by kernel_rfl, fun args h v rows he μ cargs w B ha hh hB => by
  unfold okM at he
  split at he
  · rename_i b
    split at he
    · rename_i r hr
      simp only [Option.some.injEq, Prod.mk.injEq] at he
      obtain ⟨rfl, rfl, hk⟩ := he
      obtain ⟨b', hb, hc⟩ := ok_at hh hr hk
      obtain ⟨y, rfl, hy⟩ := con1 ha
      rw [ptr_inv hy hb]
      exact fin hh hB hc
    · cases he
  · cases he⟩
end Lg
end Go.Proofs.Ytljmhdaphpdkgaa
end
