/-
  Layers and films at pointers: what the model's functions answer in any world. No condition.
-/
import Derived.Test.YtfgomdngffaffaaCt
set_option linter.unusedSectionVars false
set_option linter.unusedVariables false
noncomputable section
namespace Go.Proofs.Ytfgomdngffaffaa
namespace Ct
open Go Go.ChangeShapes Go.WideShapes Go.ChangeAt Go.RowKit Ev Sx

abbrev isB := fun (p : Prop) => @decide p (Classical.propDecidable p)
def isLn (n : Nat) (cs : List Value) : Bool := fitL (List.replicate n (Ty.f .f32)) cs
def fN (cs : List Value) (j : Nat) : Nat := match cs.getD j undef with
  | .float _ b => b
  | _ => 0
theorem fit_fl : ∀ {n : Nat} {cs : List Value}, fitL (List.replicate n (Ty.f .f32)) cs = true → cs.length = n ∧ ∀ j, j < n → ∃ x, cs[j]? = some (.float .f32 x)
  | 0, [], _ => ⟨rfl, fun j hj => absurd hj (by omega)⟩
  | 0, _ :: _, h => by cases h
  | n + 1, [], h => by cases h
  | n + 1, v :: cs, h => by
    have h : (fitV (.f .f32) v && fitL (List.replicate n (Ty.f .f32)) cs) = true := h
    rw [Bool.and_eq_true] at h
    obtain ⟨h1, h2⟩ := fit_fl h.2
    refine ⟨by rw [List.length_cons, h1], fun j hj => ?_⟩
    match j with
    | 0 =>
      cases v with
      | float k x =>
        have h0 : sameK .f32 k = true := h.1
        have := Ev.sameK_eq h0
        subst this
        exact ⟨x, rfl⟩
      | _ => cases h.1
    | j + 1 => exact h2 j (by omega)
theorem rowL_of {n : Nat} {cs : List Value} (h : isLn n cs = true) : cs = rowL (fN cs) n := by
  obtain ⟨h3, h4⟩ := fit_fl h
  refine List.ext_getElem? fun j => ?_
  unfold rowL
  rw [List.getElem?_map]
  by_cases hj : j < n
  · obtain ⟨x, hx⟩ := h4 j hj
    rw [List.getElem?_range hj, Option.map_some, hx]
    unfold fN
    rw [List.getD_eq_getElem?_getD, hx]; rfl
  · rw [List.getElem?_eq_none (by omega), List.getElem?_eq_none (by simp; omega)]; rfl
theorem isLn_bare {n : Nat} {cs : List Value} (h : isLn n cs = true) : cs.all bareC = true := by
  obtain ⟨_, h4⟩ := fit_fl h
  rw [List.all_eq_true]
  intro v hv
  obtain ⟨j, hj⟩ := List.mem_iff_getElem?.1 hv
  have hl := (List.getElem?_eq_some_iff.1 hj).1
  obtain ⟨x, hx⟩ := h4 j (by omega)
  rw [hx] at hj
  cases hj; rfl
theorem arr_of {n : Nat} {cs : Array Value} (h : isLn n cs.toList = true) : cs = (rowL (fN cs.toList) n).toArray := Array.ext' (rowL_of h)
/-! ### one value, told twice -/
theorem det_C {ι ι' : Frn} {μ μ' : Nat → Option Nat} {x x' v : Value} (h : @VR ι μ x v) (h' : @VR ι' μ' x' v) (hb : bareC x = true) (hb' : bareC x' = true) : x = x' := by
  have c := bare_can h hb
  have c' := bare_can h' hb'
  cases c with
  | bool b => cases c'; rfl
  | int k n => cases c'; rfl
  | string s => cases c'; rfl
  | float k a x hq => cases c' with | float _ a' _ h2 => rw [hq, h2]
theorem det_L {ι ι' : Frn} {μ μ' : Nat → Option Nat} {xs xs' vs : List Value} (h : @VRL ι μ xs vs) (h' : @VRL ι' μ' xs' vs) (hb : xs.all bareC = true) (hb' : xs'.all bareC = true) : xs = xs' := by
  refine List.ext_getElem? fun i => ?_
  by_cases hi : i < vs.length
  · have hx : i < xs.length := by rw [h.1]; exact hi
    have hx' : i < xs'.length := by rw [h'.1]; exact hi
    have h1 : xs[i]? = some xs[i] := List.getElem?_eq_getElem hx
    have h2 : xs'[i]? = some xs'[i] := List.getElem?_eq_getElem hx'
    have h3 : vs[i]? = some vs[i] := List.getElem?_eq_getElem hi
    rw [h1, h2]
    exact congrArg some (det_C (h.2 i _ _ h1 h3) (h'.2 i _ _ h2 h3) (List.all_eq_true.1 hb _ (List.getElem_mem _)) (List.all_eq_true.1 hb' _ (List.getElem_mem _)))
  · rw [List.getElem?_eq_none (by rw [h.1]; omega), List.getElem?_eq_none (by rw [h'.1]; omega)]
theorem form2 {n : Nat} {t : Ty} {vs : List Value} (h : fitA [.agg (List.replicate n (Ty.f .f32)), .one t] vs = true) : ∃ (cs : Array Value) (x : Value), vs = [.agg cs, x] ∧ isLn n cs.toList = true ∧ bareC x = true := by
  match vs, h with
  | [v, u], h =>
    have h : (fitP (.agg (List.replicate n (Ty.f .f32))) v && (fitV t u && true)) = true := h
    rw [Bool.and_eq_true, Bool.and_eq_true] at h
    cases v with
    | agg cs => exact ⟨cs, u, rfl, h.1, fitV_bare h.2.1⟩
    | _ => cases h.1
  | [], h => cases h
  | [_], h => exact absurd h (by simp [fitA])
  | _ :: _ :: _ :: _, h => exact absurd h (by simp [fitA])
theorem form2_bare {n : Nat} {t : Ty} {vs : List Value} (h : fitA [.agg (List.replicate n (Ty.f .f32)), .one t] vs = true) : bareP (oneOr vs) = true := by
  obtain ⟨cs, x, rfl, h1, h2⟩ := form2 h
  show (bareA (.agg cs) && (bareA x && true)) = true
  have e1 : bareA (.agg cs) = true := isLn_bare h1
  have e2 : bareA x = true := by cases x <;> first | rfl | cases h2
  rw [e1, e2]; rfl
theorem det2 {ι ι' : Frn} {μ μ' : Nat → Option Nat} {n : Nat} {t t' : Ty} {vs vs' : List Value} {v : Value} (hf : fitA [.agg (List.replicate n (Ty.f .f32)), .one t] vs = true) (hf' : fitA [.agg (List.replicate n (Ty.f .f32)), .one t'] vs' = true)
    (h : @VR ι μ (oneOr vs) v) (h' : @VR ι' μ' (oneOr vs') v) : vs = vs' := by
  obtain ⟨cs, x, rfl, h1, h2⟩ := form2 hf
  obtain ⟨cs', x', rfl, h1', h2'⟩ := form2 hf'
  have h : @VR ι μ (.tuple #[.agg cs, x]) v := h
  have h' : @VR ι' μ' (.tuple #[.agg cs', x']) v := h'
  cases h with
  | tuple _ ys g1 g2 =>
    cases h' with
    | tuple _ _ g1' g2' =>
      have hl : ys.toList.length = 2 := g1.symm
      obtain ⟨y0, y1, hy⟩ : ∃ y0 y1, ys.toList = [y0, y1] := by
        match hq : ys.toList, hl with
        | [a, b], _ => exact ⟨a, b, rfl⟩
      have a0 := g2 0 (.agg cs) y0 rfl (by rw [hy]; rfl)
      have a1 := g2 1 x y1 rfl (by rw [hy]; rfl)
      have b0 := g2' 0 (.agg cs') y0 rfl (by rw [hy]; rfl)
      have b1 := g2' 1 x' y1 rfl (by rw [hy]; rfl)
      have e1 := det_C a1 b1 h2 h2'
      cases a0 with
      | agg _ zs c1 c2 =>
        cases b0 with
        | agg _ _ d1 d2 =>
          have e0 : cs.toList = cs'.toList := det_L (vs := zs.toList) ⟨c1, c2⟩ ⟨d1, d2⟩ (isLn_bare h1) (isLn_bare h1')
          rw [Array.ext' e0, e1]
/-! ### runs at a world -/
theorem noX {ι : Frn} {P : Program} : @ExtOk ι P (fun f => seek f []) := fun f g e => by cases e
theorem noT_ok {base : Nat} {ts : Toks} {P : Program} : @ConOk (frnOf base ts noFG) P := fun f g h => by
  have h : (none : Option ConF) = some g := h
  cases h
abbrev iR (w : World) (b' : Nat) (r : List Value) : Frn := frnOf w.heap.size [(.slice (some ⟨b', 0, none⟩) 1 1, 1, r)] noFG
theorem run_at {us : List Nat} (hus : us.all (funcOk Try.prog) = true) {f : Nat} {args cargs : List Value} {v : Value} {r : List Value} {w : World} {b' : Nat} (hrow : RowIn w (.slice (some ⟨b', 0, none⟩) 1 1) 1 r)
    (e : ∃ h', @funD (iR w b' r) Try.prog noO orcK us 300 30 f args [] = some (v, h', true))
    (ha : @VRL (iR w b' r) (fun _ => none) args cargs) (hv : bareP v = true) {ι0 : Frn} {μ0 : Nat → Option Nat} :
    Calls Try.prog f cargs.toArray w fun e w' => ∃ u, e = .returned u ∧ @VR ι0 μ0 v u ∧ Below w.heap.size w w' := by
  obtain ⟨h', e⟩ := e
  have hE : @CallOk (iR w b' r) Try.prog (@funD (iR w b' r) Try.prog noO orcK us 300 30) := @EnvOk.call (iR w b' r) _ (@fun_goes (iR w b' r) Try.prog noO orcK us 300 mixed hus noX (@orc_list (iR w b' r) _ _ orcKcOk) noT_ok 30)
  have hin : @FrnIn (iR w b' r) w := frn_in fun k v l cs' hk => by
    match k, hk with
    | 0, hk => cases hk; exact hrow
  refine (hE _ _ _ _ _ _ e rfl (fun _ => none) cargs w w.heap.size ha (@HeapR.start (iR w b' r) w hin) (Nat.le_refl _)).mono fun e w' hx => ?_
  obtain ⟨u, μ', rfl, _, hu, _, hb⟩ := hx
  exact ⟨u, rfl, bareP_VR hu hv, hb⟩
theorem noG_ok {P : Program} : @ConOk noFrn P := fun f g h => by
  have h : (none : Option ConF) = some g := h
  cases h
/-- a block by itself -/
theorem sub_heap {ι : Frn} {μ : Nat → Option Nat} {h : Heap} {w : World} {B b b' : Nat} {r : List Value} (hh : @HeapR ι μ h w B) (hr : h.getD b none = some r) (hb : r.all bareC = true) (hm : μ b = some b') :
    @HeapR noFrn (fun i => if i = 0 then some b' else none) [some r] w b' := by
  obtain ⟨b2, cs', T, h1, h2, h3, h4⟩ := hh.dom b r hr
  rw [hm] at h1
  cases h1
  refine @HeapR.mk noFrn _ _ _ _ (fun c ds e => ?_) (Nat.zero_le _) trivial (fun c e => ?_) (fun c1 c2 x e1 e2 => ?_)
  · match c, e with
    | 0, e =>
      cases e
      refine ⟨b', cs', T, if_pos rfl, Nat.le_refl _, h3, h4.1, fun i x y hx hy => ?_⟩
      exact can_VR (bare_can (h4.2 i x y hx hy) (List.all_eq_true.1 hb x (List.mem_of_getElem? hx)))
    | c + 1, e => cases e
  · match c, e with
    | 0, e => cases e
    | c + 1, e => exact if_neg (by omega)
  · split at e1
    · split at e2
      · rename_i q1 q2; rw [q1, q2]
      · cases e2
    · cases e1
theorem run_loc {us : List Nat} (hus : us.all (funcOk Try.prog) = true) {f : Nat} {v : Value} {r : List Value} {ι : Frn} {μ : Nat → Option Nat} {h : Heap} {w : World} {B b b' : Nat} (hh : @HeapR ι μ h w B) (hr : h.getD b none = some r) (hb : r.all bareC = true) (hm : μ b = some b') (hlt : b' < w.heap.size)
    (e : ∃ h', @funD noFrn Try.prog extR orcR us 300 30 f [.pointer (some ⟨0, 0, none⟩)] [some r] = some (v, h', true)) :
    Calls Try.prog f #[.pointer (some ⟨b', 0, none⟩)] w fun e w' => ∃ u μ', e = .returned u ∧ @VR noFrn μ' v u := by
  obtain ⟨h', e⟩ := e
  have hE : @CallOk noFrn Try.prog (@funD noFrn Try.prog extR orcR us 300 30) := @EnvOk.call noFrn _ (@fun_goes noFrn Try.prog extR orcR us 300 mixed hus (@ext_list noFrn _ _ extXOk) (@orc_list noFrn _ _ orcGOk) noG_ok 30)
  refine (hE _ _ _ _ _ _ e rfl (fun i => if i = 0 then some b' else none) [.pointer (some ⟨b', 0, none⟩)] w b' (@VRL.cons noFrn _ _ _ _ _ (@VR.ptr noFrn _ 0 0 b' (if_pos rfl)) (@VRL.nil noFrn _)) (sub_heap hh hr hb hm) (by omega)).mono fun e w' hx => ?_
  obtain ⟨u, μ', rfl, _, hu, _, _⟩ := hx
  exact ⟨u, μ', rfl, hu⟩
theorem run_val {us : List Nat} (hus : us.all (funcOk Try.prog) = true) {f : Nat} {args cargs : List Value} {v : Value} {w : World}
    (e : ∃ h', @funD noFrn Try.prog extR orcR us 300 30 f args [] = some (v, h', true)) (ha : @VRL noFrn (fun _ => none) args cargs) :
    Calls Try.prog f cargs.toArray w fun e w' => ∃ u μ', e = .returned u ∧ @VR noFrn μ' v u ∧ Below w.heap.size w w' := by
  obtain ⟨h', e⟩ := e
  have hE : @CallOk noFrn Try.prog (@funD noFrn Try.prog extR orcR us 300 30) := @EnvOk.call noFrn _ (@fun_goes noFrn Try.prog extR orcR us 300 mixed hus (@ext_list noFrn _ _ extXOk) (@orc_list noFrn _ _ orcGOk) noG_ok 30)
  refine (hE _ _ _ _ _ _ e rfl (fun _ => none) cargs w w.heap.size ha (@HeapR.start noFrn w (noIn w)) (Nat.le_refl _)).mono fun e w' hx => ?_
  obtain ⟨u, μ', rfl, _, hu, _, hb⟩ := hx
  exact ⟨u, μ', rfl, hu, hb⟩
/-- two contracts on one call speak of one end -/
theorem agree {P : Program} {f : FuncId} {args : Array Value} {w : World} {R R' : Value → Prop} (h : Calls P f args w fun e _ => ∃ v, e = .returned v ∧ R v) (h' : Calls P f args w fun e _ => ∃ v, e = .returned v ∧ R' v) (hi : P.inits.idxOf? f = none) : ∃ v, R v ∧ R' v := by
  have g : Calls P f args w fun | .returned v, w' => R v | _, _ => False := h.mono fun e w' hx => by
    obtain ⟨v, rfl, hv⟩ := hx
    exact hv
  have g' : Calls P f args w fun | .returned v, w' => R' v | _, _ => False := h'.mono fun e w' hx => by
    obtain ⟨v, rfl, hv⟩ := hx
    exact hv
  obtain ⟨n, v, w1, e1, r1⟩ := g.done hi
  obtain ⟨m, v', w2, e2, r2⟩ := g'.done hi
  have a := runN_ended e1 m
  have b := runN_ended e2 n
  rw [Nat.add_comm, a] at b
  injection b with ho hw
  injection ho with hv
  subst hv
  exact ⟨_, r1, r2⟩
theorem row_at {ι : Frn} {μ : Nat → Option Nat} {h : Heap} {w : World} {B b b' : Nat} {r : List Value} (hh : @HeapR ι μ h w B) (hr : h.getD b none = some r) (hb : r.all bareC = true) (hm : μ b = some b') : RowIn w (.slice (some ⟨b', 0, none⟩) 1 1) 1 r := by
  have := local_row hh (@VR.slice ι μ b 0 b' 1 1 hm) hr hb
  rwa [List.drop_zero] at this
theorem vl1 {ι : Frn} {μ : Nat → Option Nat} {x y : Value} (h : @VR ι μ x y) : @VRL ι μ [x] [y] := @VRL.cons ι _ _ _ _ _ h (@VRL.nil ι _)
theorem vl2 {ι : Frn} {μ : Nat → Option Nat} {x y x2 y2 : Value} (h : @VR ι μ x y) (h2 : @VR ι μ x2 y2) : @VRL ι μ [x, x2] [y, y2] := @VRL.cons ι _ _ _ _ _ h (vl1 h2)
theorem val_at {ι : Frn} {μ : Nat → Option Nat} {h : Heap} {w : World} {B b n : Nat} {r : List Value} (hh : @HeapR ι μ h w B) (hr : h.getD b none = some r) (hk : isLn n r = true) :
    ∃ b' cs', μ b = some b' ∧ b' < w.heap.size ∧ RowIn w (.slice (some ⟨b', 0, none⟩) 1 1) 1 r ∧ ∀ (ι2 : Frn) (μ2 : Nat → Option Nat), @VR ι2 μ2 (.agg r.toArray) (.agg cs') := by
  obtain ⟨b', cs', T, h1, _, h3, h4⟩ := hh.dom b r hr
  refine ⟨b', cs', h1, ?_, row_at hh hr (isLn_bare hk) h1, fun ι2 μ2 => ?_⟩
  · rcases Nat.lt_or_ge b' w.heap.size with hlt | hge
    · exact hlt
    · simp [hge] at h3
  · have : @VR ι μ (.agg r.toArray) (.agg cs') := @VR.agg ι μ r.toArray cs' h4.1 h4.2
    exact bareP_VR this (isLn_bare hk)
theorem usG_ok : Fg.us.all (funcOk Try.prog) = true := by kernel_rfl
theorem usH_ok : Fh.us.all (funcOk Try.prog) = true := by kernel_rfl
theorem usO_ok : Fo.us.all (funcOk Try.prog) = true := by kernel_rfl
theorem usP_ok : Fp.us.all (funcOk Try.prog) = true := by kernel_rfl
def okC (cs : List Value) : Bool := okX (fN cs)
def filC (cs : List Value) : List Value := filX (fN cs)
def ovC (cs ds : List Value) : List Value := ovX (fN cs) (fN ds)
theorem film_at {ι : Frn} {μ : Nat → Option Nat} {h : Heap} {w : World} {B b : Nat} {r : List Value} (hh : @HeapR ι μ h w B) (hr : h.getD b none = some r) (hk : isLn 33 r = true) (hok : okC r = true) :
    ∃ b', μ b = some b' ∧ Calls Try.prog 39 #[.pointer (some ⟨b', 0, none⟩)] w fun e w' => ∃ u, e = .returned u ∧ @VR ι μ (oneOr (filC r)) u ∧ Below w.heap.size w w' := by
  obtain ⟨b', cs', hb, hlt, hrow, hv⟩ := val_at hh hr hk
  obtain ⟨vF, fF, hF⟩ := f_valF (fN r)
  have e1 := hF w.heap.size (.slice (some ⟨b', 0, none⟩) 1 1)
  rw [← rowL_of hk] at e1
  have c1 := run_at usH_ok hrow e1 (vl1 (ptr_VR (k := 0) (o := 0) rfl)) (form2_bare fF) (ι0 := ι) (μ0 := μ)
  obtain ⟨fS, s⟩ := filX_spec (fN r)
  have s := s hok
  rw [← rowL_of hk] at s
  have c2 := run_loc usG_ok hh hr (isLn_bare hk) hb hlt s.1
  obtain ⟨v, r1, μ', r2⟩ := agree (R := fun v => @VR ι μ (oneOr vF) v) (R' := fun v => ∃ μ', @VR noFrn μ' (oneOr (filC r)) v) (c1.mono fun e w' hx => by
      obtain ⟨u, rfl, hu, _⟩ := hx
      exact ⟨u, rfl, hu⟩) (c2.mono fun e w' hx => by
      obtain ⟨u, μ', rfl, hu⟩ := hx
      exact ⟨u, rfl, μ', hu⟩) (by kernel_rfl)
  have : vF = filC r := det2 fF fS r1 r2
  rw [this] at c1
  exact ⟨b', hb, c1⟩
theorem over_at {ι : Frn} {μ : Nat → Option Nat} {h : Heap} {w : World} {B b : Nat} {r s : List Value} {y : Value} (hh : @HeapR ι μ h w B) (hr : h.getD b none = some r) (hk : isLn 48 r = true) (hs : isLn 16 s = true) (hy : @VR ι μ (.agg s.toArray) y) :
    ∃ b', μ b = some b' ∧ Calls Try.prog 59 #[.pointer (some ⟨b', 0, none⟩), y] w fun e w' => ∃ u, e = .returned u ∧ @VR ι μ (oneOr (ovC r s)) u ∧ Below w.heap.size w w' := by
  obtain ⟨b', cs', hb, hlt, hrow, hv⟩ := val_at hh hr hk
  obtain ⟨vF, fF, hF⟩ := o_valF (fN r) (fN s)
  obtain ⟨e1, e2⟩ := hF w.heap.size (.slice (some ⟨b', 0, none⟩) 1 1)
  rw [← rowL_of hk, ← rowL_of hs] at e1 e2
  have hyb : bareP (.agg s.toArray) = true := isLn_bare hs
  have c1 := run_at usP_ok hrow e1 (vl2 (ptr_VR (k := 0) (o := 0) rfl) (bareP_VR hy hyb)) (form2_bare fF) (ι0 := ι) (μ0 := μ)
  have c2 := run_at usP_ok hrow e2 (vl2 (hv _ _) (bareP_VR hy hyb)) (form2_bare fF) (ι0 := ι) (μ0 := μ)
  obtain ⟨fS, q⟩ := ovX_spec (fN r) (fN s)
  rw [← rowL_of hk, ← rowL_of hs] at q
  have c3 := run_val (w := w) usO_ok q (vl2 (hv _ _) (bareP_VR hy hyb))
  obtain ⟨v, r1, μ', r2⟩ := agree (R := fun v => @VR ι μ (oneOr vF) v) (R' := fun v => ∃ μ', @VR noFrn μ' (oneOr (ovC r s)) v) (c2.mono fun e w' hx => by
      obtain ⟨u, rfl, hu, _⟩ := hx
      exact ⟨u, rfl, hu⟩) (c3.mono fun e w' hx => by
      obtain ⟨u, μ', rfl, hu, _⟩ := hx
      exact ⟨u, rfl, μ', hu⟩) (by kernel_rfl)
  have : vF = ovC r s := det2 fF fS r1 r2
  rw [this] at c1
  exact ⟨b', hb, c1⟩
end Ct
end Go.Proofs.Ytfgomdngffaffaa
end
