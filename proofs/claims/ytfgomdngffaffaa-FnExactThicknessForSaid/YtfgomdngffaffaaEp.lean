/-
  The evaluator goes on: calls that panic, and functions that defer a closure which recovers ('guard_goes', 'guard_one'). No condition; nothing of one program stands here.
-/
import Derived.Test.YtfgomdngffaffaaEv
import Derived.Recover
set_option linter.unusedSectionVars false
namespace Ev
noncomputable section
open Go Go.RowKit
variable [Frn]

/-! ### Calls that panic -/
abbrev pv (t : TypeId) : Value := .iface t (.agg #[])
/-- what a call comes to -/
inductive Res where
  | val (v : Value)
  | pan (t : TypeId)
abbrev CallX := FuncId → List Value → Heap → Option (Res × Heap × Bool)
def valX (x : CallX) : CallD := fun f args h => match x f args h with
  | some (.val v, h', k) => some (v, h', k)
  | _ => none
structure EnvX where
  P : Program
  ext : Orc
  call : CallX
def EnvX.env (X : EnvX) : Env := ⟨X.P, X.ext, valX X.call, false, false⟩
abbrev chainOf (t : TypeId) : List PanicEntry := [{ v := pv t, recovered := false }]
def EndR (μ : Nat → Option Nat) : Res → Ending → Prop
  | .val v, e => ∃ v', e = .returned v' ∧ VR μ v v'
  | .pan t, e => e = .panicked (chainOf t)
def CallXOk (P : Program) (call : CallX) : Prop :=
  ∀ f args h r h' k, call f args h = some (r, h', k) → k = true → ∀ μ cargs w B, VRL μ args cargs → HeapR μ h w B → B ≤ w.heap.size →
    Calls P f cargs.toArray w fun e w' => ∃ μ', Sub μ μ' ∧ EndR μ' r e ∧ HeapR μ' h' w' B ∧ Below B w w'
structure EnvXOk (X : EnvX) : Prop where
  ext : ExtOk X.P X.ext
  call : CallXOk X.P X.call
  enter : ∀ f args h r, X.call f args h = some r → ∀ cargs w, (callFunc f cargs).run X.P w = .ok (.enter f cargs) w
theorem valX_some {x : CallX} {f : FuncId} {args : List Value} {h : Heap} {r : Value × Heap × Bool} (e : valX x f args h = some r) : x f args h = some (.val r.1, r.2) := by
  unfold valX at e
  split at e
  · rename_i v h' k hx
    cases e
    exact hx
  · cases e
theorem EnvXOk.env {X : EnvX} (h : EnvXOk X) : EnvOk X.env := by
  refine ⟨fun e => (by cases e), h.ext.two, fun f args hp v h' k e hk μ cargs w B ha hh hB => ?_, fun f args hp r e => h.enter f args hp _ (valX_some e)⟩
  refine (h.call f args hp (.val v) h' k (valX_some e) hk μ cargs w B ha hh hB).mono fun e w' hx => ?_
  obtain ⟨μ', h1, ⟨v', h2, h3⟩, h4, h5⟩ := hx
  exact ⟨v', μ', h2, h1, h3, h4, h5⟩

def callP (X : EnvX) (draw : Bool) (h : Heap) (f : Value) (args : List Value) (g : Bool) : Option (TypeId × Heap × Bool) :=
  match f with
  | .func (.func id) first captured =>
    match X.ext id with
    | some _ => none
    | none =>
      bif (first.toList ++ args ++ captured.toList).all plainB then
        match X.call id (first.toList ++ args ++ captured.toList) [] with
        | some (.pan t, _, k) => some (t, h, g && k)
        | _ => none
      else bif draw then none else
        match X.call id (first.toList ++ args ++ captured.toList) h with
        | some (.pan t, h', k) => some (t, bif lowH h.length (h'.take h.length) then h'.take h.length else h', g && k)
        | _ => none
  | _ => none
/-- an operation that panics: with a value of this type, leaving this heap -/
def panD (X : EnvX) (draw : Bool) (t : List (Value × Bool)) (h : Heap) (o : Op) : Option (TypeId × Heap × Bool) :=
  match o with
  | .panic x => match (evl t x).1 with
    | .iface ty v => bif emptyA v then some (ty, h, (evl t x).2) else none
    | _ => none
  | .call c => match c.callee with
    | .value f => callP X draw h (evl t f).1 (c.args.toList.map fun x => (evl t x).1) ((evl t f).2 && c.args.toList.all fun x => (evl t x).2)
    | _ => none
  | _ => none

section ops
variable {X : EnvX} {t : List (Value × Bool)} {h : Heap} {a : Act} {w : World} {μ : Nat → Option Nat} {B : Nat} {o : Oper}
/-- an operation that panics, in the program -/
abbrev PanGoes (P : Program) (o : Oper) (a : Act) (w : World) (μ : Nat → Option Nat) (B : Nat) (ty : TypeId) (h' : Heap) : Prop :=
  ∀ (K : Act → World → Prop) (Q : Exit → Act → World → Prop), (∀ w' μ', Sub μ μ' → HeapR μ' h' w' B → Below B w w' → Q (.panic (chainOf ty)) a w') → o.wp P a w K Q
theorem callP_goes (hX : EnvXOk X) (hh : HeapR μ h w B) (hB : B ≤ w.heap.size) {draw : Bool} {f f' : Value} {args cargs : List Value} {g : Bool} {ty : TypeId} {h' : Heap} (hf : g = true → VR μ f f') (ha : g = true → VRL μ args cargs)
    (hr : callP X draw h f args g = some (ty, h', true)) (hrun : (execOp a.eval o).run X.P w = ((Deferred.ofValue f' cargs.toArray).run X.P w).andThen fun d w' => (invoke d.target d.args).run X.P w') : PanGoes X.P o a w μ B ty h' := by
  unfold callP at hr
  split at hr
  case h_2 => cases hr
  rename_i id first captured
  split at hr
  · cases hr
  · cases hp : (first.toList ++ args ++ captured.toList).all plainB with
    | true =>
      rw [hp, cond_true] at hr
      split at hr
      case h_2 => cases hr
      rename_i t0 hq k hv
      simp only [Option.some.injEq, Prod.mk.injEq, Bool.and_eq_true] at hr
      obtain ⟨rfl, rfl, hg, rfl⟩ := hr
      obtain ⟨f1, c1, rfl, q1, q2⟩ := (hf hg).func_inv
      have hargs := (q1.append (ha hg)).append q2
      have e1 : (execOp a.eval o).run X.P w = .ok (.enter id (f1.toList ++ cargs ++ c1.toList).toArray) w := by
        rw [hrun]
        have : (callFunc id (f1 ++ cargs.toArray ++ c1)).run X.P w = .ok (.enter id (f1 ++ cargs.toArray ++ c1)) w := hX.enter _ _ _ _ hv _ w
        rw [← arr_eq]
        exact this
      have hc := hX.call id _ [] _ _ _ hv rfl (fun _ => none) _ w w.heap.size (plain_VRL hargs hp) (hh.empty hB) (Nat.le_refl _)
      intro K Q hK
      unfold Oper.wp
      rw [e1]
      refine hc.mono fun e w' hx => ?_
      obtain ⟨μ', _, hvr, _, hbl⟩ := hx
      cases hvr
      exact hK w' μ (Sub.refl μ) (hh.keep hB hbl) (hbl.mono hB)
    | false =>
      rw [hp, cond_false] at hr
      cases draw with
      | true => cases hr
      | false =>
        rw [cond_false] at hr
        split at hr
        case h_2 => cases hr
        rename_i t0 hq k hv
        simp only [Option.some.injEq, Prod.mk.injEq, Bool.and_eq_true] at hr
        obtain ⟨rfl, rfl, hg, rfl⟩ := hr
        obtain ⟨f1, c1, rfl, q1, q2⟩ := (hf hg).func_inv
        have hargs := (q1.append (ha hg)).append q2
        have e1 : (execOp a.eval o).run X.P w = .ok (.enter id (f1.toList ++ cargs ++ c1.toList).toArray) w := by
          rw [hrun]
          have : (callFunc id (f1 ++ cargs.toArray ++ c1)).run X.P w = .ok (.enter id (f1 ++ cargs.toArray ++ c1)) w := hX.enter _ _ _ _ hv _ w
          rw [← arr_eq]
          exact this
        have hc := hX.call id _ h _ _ _ hv rfl μ _ w B hargs hh hB
        intro K Q hK
        unfold Oper.wp
        rw [e1]
        refine hc.mono fun e w' hx => ?_
        obtain ⟨μ', hs, hvr, hhr, hbl⟩ := hx
        cases hvr
        cases hcut : lowH h.length (hq.take h.length) with
        | false =>
          rw [hcut, cond_false] at hK
          exact hK w' μ' hs hhr hbl
        | true =>
          rw [hcut, cond_true] at hK
          exact hK w' (cutM h.length μ') (cut_sub hh hs) (cut_heap hhr hcut) hbl
theorem panD_goes (hX : EnvXOk X) {draw : Bool} (ht : TmpsR μ t a.tmps) (hh : HeapR μ h w B) (hB : B ≤ w.heap.size) {ty : TypeId} {h' : Heap} (hp : panD X draw t h o.op = some (ty, h', true)) : PanGoes X.P o a w μ B ty h' := by
  unfold panD at hp
  split at hp
  · rename_i x hx
    split at hp
    case h_2 => cases hp
    rename_i ty' v he
    cases hv : emptyA v with
    | false => rw [hv] at hp; cases hp
    | true =>
      rw [hv, cond_true] at hp
      simp only [Option.some.injEq, Prod.mk.injEq] at hp
      obtain ⟨rfl, rfl, hg⟩ := hp
      have h1 := evl_sound ht x hg
      rw [he] at h1
      obtain ⟨_, h1⟩ := h1.iface_inv
      intro K Q hK
      unfold Oper.wp
      have : (execOp a.eval o).run X.P w = .halt (.panic (pv ty')) w := by
        simp only [execOp, hx, h1]
        rfl
      rw [this]
      exact hK w μ (Sub.refl μ) hh (Below.refl B w)
  · rename_i c hx
    split at hp
    case h_2 => cases hp
    rename_i f hf
    refine callP_goes hX hh hB (f' := a.eval f) (cargs := c.args.toList.map a.eval) (fun hg => evl_sound ht f ?_) (fun hg => args_sound ht _ ?_) hp ?_
    · simp only [Bool.and_eq_true] at hg; exact hg.1
    · simp only [Bool.and_eq_true] at hg; exact hg.2
    · simp only [execOp, hx, resolve, hf, Sem.run_bind]
      rw [show c.args.map a.eval = (c.args.toList.map a.eval).toArray by apply Array.ext'; simp]
  · cases hp
end ops

/-! ### Regions that panic -/
/-- what is known of the slots -/
def TmpsW (μ : Nat → Option Nat) (t : List (Value × Bool)) (c : Array Value) : Prop := ∀ i p, t[i]? = some p → p.2 = true → VR μ p.1 (c.getD i undef)
structure PSimR (D : List Deferred) (μ0 μ : Nat → Option Nat) (B : Nat) (w0 : World) (s : St) (a : Act) (w : World) : Prop where
  tmps : TmpsW μ s.tmps a.tmps
  heap : HeapR μ s.heap w B
  below : Below B w0 w
  room : B ≤ w.heap.size
  defers : a.defers = D
  sub : Sub μ0 μ
def PSim (D : List Deferred) (μ0 : Nat → Option Nat) (B : Nat) (w0 : World) (s : St) (a : Act) (w : World) : Prop := ∃ μ, PSimR D μ0 μ B w0 s a w
theorem TmpsR.toW {μ : Nat → Option Nat} {t : List (Value × Bool)} {c : Array Value} (h : TmpsR μ t c) : TmpsW μ t c := fun i p hp hg => by
  have := (h.getD i).1
  rw [List.getD_eq_getElem?_getD, hp] at this
  exact this hg

/-- which one panics -/
def panR (X : EnvX) (draw : Bool) (ops : List Oper) (ms : List Nat) (lo : Nat) : List (Nat × Oper) → St → Option (TypeId × St × Nat × List (Nat × Oper))
  | [], _ => none
  | x :: r, s => match stepD X.env draw (chkD draw ms lo x.1) ops (lo + x.1) x.2 s with
    | some s' => panR X draw ops ms lo r s'
    | none => match x.2.guard with
      | some _ => none
      | none => match panD X draw s.tmps s.heap x.2.op with
        | some (t, h', k) => some (t, ⟨s.tmps, h', k && s.ok⟩, x.1, r)
        | none => none
def dstsOf (ops : List Oper) : List Tmp := ops.filterMap (·.dst)
/-- slots of which nothing is known -/
def blankT (ops : List Oper) (t : List (Value × Bool)) : List (Value × Bool) := (dstsOf ops).foldl (fun t d => t.set d (undef, false)) t
/-- what does not hang on 'j' -/
def freeOf (ms : List Nat) (j : Nat) (x : Nat × Oper) : Bool := !(ms.getD x.1 0).testBit j
/-- what may be carried out ahead of 'j' leaves the memory as it is -/
def calmB (ms : List Nat) (j : Nat) (l : List (Nat × Oper)) : Bool := l.all fun x => Nat.beq x.1 j || (!freeOf ms j x || (!isSt x.2.op && !isNew x.2.op))
def panA (X : EnvX) (draw : Bool) (ops : List Oper) (s : St) : Option (TypeId × St) :=
  bif hasNew ops then none else
  match panR X draw ops (masks ops []) s.heap.length (tagL 0 ops) s with
  | some (t, s1, j, r) =>
    bif draw then
      match runL X.env ops (masks ops []) s.heap.length (r.filter (freeOf (masks ops []) j)) s1 with
      | some s2 => bif calmB (masks ops []) j (tagL 0 ops) && s2.ok then some (t, ⟨blankT ops s.tmps, s.heap, true⟩) else none
      | none => none
    else some (t, s1)
  | none => none

section regions
variable {X : EnvX} {D : List Deferred} {μ0 : Nat → Option Nat} {B : Nat} {w0 : World}
theorem panR_ok {draw : Bool} {ops : List Oper} {ms : List Nat} {lo : Nat} {t : TypeId} {s1 : St} {j : Nat} {r' : List (Nat × Oper)} : ∀ (r : List (Nat × Oper)) (s : St), panR X draw ops ms lo r s = some (t, s1, j, r') → s1.ok = true → s.ok = true
  | [], _, h, _ => by cases h
  | x :: r, s, h, hok => by
    unfold panR at h
    cases hst : stepD X.env draw (chkD draw ms lo x.1) ops (lo + x.1) x.2 s with
    | some s' => rw [hst] at h; exact step_ok hst (panR_ok r s' h hok)
    | none =>
      rw [hst] at h
      dsimp only at h
      split at h
      · cases h
      · split at h
        · cases h
          rw [Bool.and_eq_true] at hok
          exact hok.2
        · cases h
theorem seq_pan (hX : EnvXOk X) {ops : Array Oper} {ms : List Nat} {lo : Nat} {Q : Exit → Act → World → Prop} {t : TypeId} {s1 : St} {j : Nat} {r' : List (Nat × Oper)}
    (hQ : ∀ a' w', PSim D μ0 B w0 s1 a' w' → Q (.panic (chainOf t)) a' w') (hok : s1.ok = true) :
    ∀ (r : List Oper) (i : Nat) (s : St) (a : Act) (w : World), ops.toList.drop i = r → panR X false ops.toList ms lo (tagL i r) s = some (t, s1, j, r') → Sim D μ0 B w0 s a w → wpOps X.P ops Q (List.range' i r.length) a w := by
  intro r
  induction r with
  | nil => intro i s a w _ h; cases h
  | cons o r ih =>
    intro i s a w hd hr ⟨μ, hs⟩
    have ho : ops[i]? = some o := by
      have : (ops.toList.drop i)[0]? = some o := by rw [hd]; rfl
      rw [List.getElem?_drop] at this
      simpa using this
    have hd' : ops.toList.drop (i + 1) = r := by
      have := congrArg (List.drop 1) hd
      rw [List.drop_drop] at this
      simpa using this
    simp only [List.length_cons, List.range'_succ]
    rw [wpOps_cons]
    unfold wpOp
    rw [ho]
    simp only [tagL] at hr
    unfold panR at hr
    cases hst : stepD X.env false (chkD false ms lo i) ops.toList (lo + i) o s with
    | some s' =>
      rw [hst] at hr
      have hgo := step_goes hX.env hst (panR_ok _ _ hr hok) hs (wpOps X.P ops Q (List.range' (i + 1) r.length)) Q (fun a' w' hs' => ih (i + 1) s' a' w' hd' hr hs')
      show if Region.wanted o (yielded ops a.tmps) = true then _ else _
      split
      · rename_i hw; rw [if_pos hw] at hgo; exact .inl hgo
      · rename_i hw; rw [if_neg hw] at hgo; exact hgo
    | none =>
      rw [hst] at hr
      dsimp only at hr
      split at hr
      · cases hr
      · rename_i hg
        split at hr
        · rename_i t0 h' k hp
          cases hr
          rw [Bool.and_eq_true] at hok
          obtain ⟨rfl, _⟩ := hok
          show if Region.wanted o (yielded ops a.tmps) = true then _ else _
          rw [if_pos (by simp [Region.wanted, hg])]
          refine .inl (panD_goes hX hs.tmps hs.heap hs.room hp _ _ fun w' μ' h1 h2 h3 => hQ a w' ⟨μ', ?_, h2, hs.below.trans h3, Nat.le_trans hs.room h3.size, hs.defers, hs.sub.trans h1⟩)
          exact (hs.tmps.mono h1).toW
        · cases hr

theorem panD_same {t t' : List (Value × Bool)} {h h' : Heap} {o : Op} (ht : LooksSame t t' (opTmps o)) : (panD X true t h o).map (fun q => (q.1, q.2.2)) = (panD X true t' h' o).map (fun q => (q.1, q.2.2)) := by
  have ev : ∀ x ∈ o.operands.toList, evl t x = evl t' x := fun x hx => evl_same fun i e => ht i (mem_opTmps (e ▸ hx))
  have cs : ∀ f args g, (callP X true h f args g).map (fun q => (q.1, q.2.2)) = (callP X true h' f args g).map (fun q => (q.1, q.2.2)) := fun f args g => by
    unfold callP
    split
    · rename_i id first captured
      split
      · rfl
      · cases (first.toList ++ args ++ captured.toList).all plainB with
        | true =>
          rw [cond_true, cond_true]
          split <;> rfl
        | false => rfl
    · rfl
  cases o with
  | panic x =>
    simp only [panD, ev x (by simp [Op.operands])]
    split
    · rename_i ty v _
      cases emptyA v <;> rfl
    · rfl
  | call c =>
    simp only [panD]
    cases hc : c.callee with
    | value f =>
      have e1 : evl t f = evl t' f := ev f (by simp [Op.operands, Call.operands, hc])
      have e2 : ∀ x ∈ c.args.toList, evl t x = evl t' x := fun x hx => ev x (by simp [Op.operands, Call.operands, hc]; exact .inr (by simpa using hx))
      simp only [e1, map_evl e2, all_evl e2]
      exact cs ..
    | _ => rfl
  | _ => rfl
theorem panD_heap {t : List (Value × Bool)} {h h' : Heap} {o : Op} {ty : TypeId} {k : Bool} (e : panD X true t h o = some (ty, h', k)) : h' = h := by
  unfold panD at e
  split at e
  · split at e
    · rename_i v _
      cases hv : emptyA v with
      | false => rw [hv] at e; cases e
      | true => rw [hv] at e; cases e; rfl
    · cases e
  · split at e
    · unfold callP at e
      split at e
      · rename_i id first captured _
        split at e
        · cases e
        · generalize (first.toList ++ _ ++ captured.toList) = as at e
          cases hp : as.all plainB with
          | false => rw [hp] at e; cases e
          | true =>
            rw [hp, cond_true] at e
            split at e
            · cases e; rfl
            · cases e
      · cases e
    · cases e
  · cases e
theorem panD_at {t t' : List (Value × Bool)} {h h1 h' : Heap} {o : Op} {ty : TypeId} {k : Bool} (ht : LooksSame t t' (opTmps o)) (e : panD X true t' h1 o = some (ty, h', k)) : panD X true t h o = some (ty, h, k) := by
  have := panD_same (X := X) (h := h) (h' := h1) ht
  rw [e] at this
  cases hq : panD X true t h o with
  | none => rw [hq] at this; cases this
  | some q =>
    obtain ⟨ty', h2, k'⟩ := q
    rw [hq] at this
    simp only [Option.map_some, Option.some.injEq, Prod.mk.injEq] at this
    obtain ⟨rfl, rfl⟩ := this
    rw [panD_heap hq]
theorem LooksSame.trans {a b c : List (Value × Bool)} {l : List Tmp} (h : LooksSame a b l) (k : LooksSame b c l) : LooksSame a c l := fun i hi => (h i hi).trans (k i hi)
theorem step_looks {E : Env} {ops : List Oper} {chk : Nat → Bool} {nid : Nat} {x : Oper} {s s' : St} {l : List Tmp} (h : stepD E true chk ops nid x s = some s') (hl : ∀ d, x.dst = some d → d ∉ l) : LooksSame s.tmps s'.tmps l := by
  rw [stepD_eq] at h
  obtain ⟨q, _, rfl⟩ := Option.map_eq_some_iff.1 h
  exact fun i hi => (putT_getD fun e he hne => hl e he (hne ▸ hi)).symm
theorem runL_looks {E : Env} {ops : List Oper} {ms : List Nat} {lo : Nat} {l : List Tmp} : ∀ (R : List (Nat × Oper)) (s s' : St), runL E ops ms lo R s = some s' → (∀ y ∈ R, ∀ d, y.2.dst = some d → d ∉ l) → LooksSame s.tmps s'.tmps l
  | [], s, s', h, _ => by cases h; exact fun _ _ => rfl
  | x :: R, s, s', h, hl => by
    simp only [runL] at h
    split at h
    · rename_i s1 h1
      exact (step_looks h1 (hl x List.mem_cons_self)).trans (runL_looks R s1 s' h fun y hy => hl y (List.mem_cons_of_mem _ hy))
    · cases h
theorem runL_append {E : Env} {ops : List Oper} {ms : List Nat} {lo : Nat} : ∀ (A C : List (Nat × Oper)) (s : St), runL E ops ms lo (A ++ C) s = (runL E ops ms lo A s).bind fun s' => runL E ops ms lo C s'
  | [], C, s => rfl
  | x :: A, C, s => by
    simp only [List.cons_append, runL]
    split
    · exact runL_append A C _
    · rfl
theorem runL_ok {E : Env} {ops : List Oper} {ms : List Nat} {lo : Nat} : ∀ (R : List (Nat × Oper)) (s s' : St), runL E ops ms lo R s = some s' → s'.ok = true → s.ok = true
  | [], s, s', h, hok => by cases h; exact hok
  | x :: R, s, s', h, hok => by
    simp only [runL] at h
    split at h
    · rename_i s1 h1; exact step_ok h1 (runL_ok R s1 s' h hok)
    · cases h
/-- slots that aren't written, and the memory, are as they were -/
structure Kept (ops : List Oper) (s0 s : St) : Prop where
  tmps : ∀ i, i ∉ dstsOf ops → s.tmps[i]? = s0.tmps[i]?
  heap : s.heap = s0.heap
theorem Kept.step {E : Env} {ops : List Oper} {chk : Nat → Bool} {nid : Nat} {x : Oper} {s0 s s' : St} (hrd : E.rd = false) (h : stepD E true chk ops nid x s = some s') (hx : x ∈ ops) (h1 : isSt x.op = false) (h2 : isNew x.op = false) (k : Kept ops s0 s) : Kept ops s0 s' := by
  rw [stepD_eq] at h
  obtain ⟨q, hq, rfl⟩ := Option.map_eq_some_iff.1 h
  refine ⟨fun i hi => ?_, ?_⟩
  · rw [← k.tmps i hi]
    show (putT s.tmps x.dst q.1)[i]? = _
    cases hd : x.dst with
    | none => rfl
    | some d =>
      have hne : d ≠ i := fun e => hi (by subst e; exact List.mem_filterMap.2 ⟨x, hx, hd⟩)
      show (s.tmps.set d q.1)[i]? = _
      rw [List.getElem?_set, if_neg hne]
  · show putW s.heap q.2.1 = _
    rcases stepOut_w hq with e | ⟨e, _⟩ | ⟨e, _⟩ | ⟨_, e, _⟩
    · rw [e]; exact k.heap
    · rw [h2] at e; cases e
    · rw [h1] at e; cases e
    · rw [hrd] at e; cases e
theorem blank_get {i : Nat} {p : Value × Bool} : ∀ (l : List Tmp) (t : List (Value × Bool)), (l.foldl (fun t d => t.set d (undef, false)) t)[i]? = some p → p.2 = true → i ∉ l ∧ t[i]? = some p
  | [], t, h, _ => ⟨by simp, h⟩
  | d :: l, t, h, hp => by
    obtain ⟨h1, h2⟩ := blank_get l (t.set d (undef, false)) h hp
    rw [List.getElem?_set] at h2
    by_cases e : d = i
    · rw [if_pos e] at h2
      split at h2
      · cases h2; cases hp
      · cases h2
    · rw [if_neg e] at h2
      exact ⟨by simp; exact ⟨fun he => e he.symm, h1⟩, h2⟩
theorem looks_reads {ops : List Oper} {o : Oper} {t t' : List (Value × Bool)} (h : LooksSame t t' (readsOf ops o)) : LooksSame t t' (opTmps o.op) := fun i hi => h i (by unfold readsOf; exact List.mem_append_left _ hi)
end regions
end
end Ev
namespace Ev
noncomputable section
open Go Go.RowKit
variable [Frn]

section
variable {X : EnvX} {D : List Deferred} {μ0 : Nat → Option Nat} {B : Nat} {w0 : World}
/-- a region that draws its order and panics: whatever order -/
theorem any_pan (hX : EnvXOk X) {ops : Array Oper} (hok : orderOk ops.toList (masks ops.toList []) 0 ops.toList = true) {lo : Nat} {Q : Exit → Act → World → Prop} {ty : TypeId} {s0 : St} {j : Nat} {oj : Oper} (hj : ops[j]? = some oj) (hg : oj.guard = none)
    (hcalm : ∀ (i : Nat) o, ops[i]? = some o → i ≠ j → ((masks ops.toList []).getD i 0).testBit j = false → isSt o.op = false ∧ isNew o.op = false)
    (hQ : ∀ a' w', PSim D μ0 B w0 ⟨blankT ops.toList s0.tmps, s0.heap, true⟩ a' w' → Q (.panic (chainOf ty)) a' w') :
    ∀ (fuel : Nat) (L1 L2 : List (Nat × Oper)) (listed : Array Bool) (s s1 s2 : St) (a : Act) (w : World) (h1 : Heap), L1.length + L2.length + 1 ≤ fuel → listed.size = ops.size → Closed ops listed → Sorted (L1 ++ L2) →
      (∀ x ∈ L1 ++ L2, ops[x.1]? = some x.2) → (∀ x ∈ L1, x.1 < j) → (∀ x ∈ L2, j < x.1 ∧ ((masks ops.toList []).getD x.1 0).testBit j = false) → listed.getD j true = false →
      (∀ i, i < ops.size → i ≠ j → ((masks ops.toList []).getD i 0).testBit j = false → (listed.getD i true = false ↔ ∃ x ∈ L1 ++ L2, x.1 = i)) →
      runL X.env ops.toList (masks ops.toList []) lo L1 s = some s1 → panD X true s1.tmps s1.heap oj.op = some (ty, h1, true) → runL X.env ops.toList (masks ops.toList []) lo L2 s1 = some s2 → s2.ok = true →
      Kept ops.toList s0 s → Sim D μ0 B w0 s a w → wpAny X.P .any ops Q fuel listed a w := by
  have hjlt : j < ops.size := (Array.getElem?_eq_some_iff.1 hj).1
  have low : ∀ (i : Nat) o, ops[i]? = some o → i < j → ((masks ops.toList []).getD i 0).testBit j = false := fun i o ho hi => by
    cases hb : ((masks ops.toList []).getD i 0).testBit j with
    | false => rfl
    | true => have := mask_lt hok i o (by simpa using ho) j hb; omega
  have before : ∀ (i : Nat) o, ops[i]? = some o → ∀ e ∈ o.after, Region.binds .any e = true → e.on < i := fun i o ho e he hb => by
    have := edgesLt_spec (orderOk_spec ops.toList 0 hok i o (by simpa using ho)).1 e (by simpa using he) hb
    omega
  have conf : ∀ (i k : Nat) oi ok', ops[i]? = some oi → ops[k]? = some ok' → i < k → ((masks ops.toList []).getD k 0).testBit i = false → conflict ops.toList oi ok' = false := fun i k oi ok' hi hk hlt hb => by
    cases hcf : conflict ops.toList oi ok' with
    | false => rfl
    | true =>
      have := (orderOk_spec ops.toList 0 hok k ok' (by simpa using hk)).2 i oi (by omega) (by simpa using hi) hcf
      rw [Nat.zero_add, hb] at this; cases this
  intro fuel
  induction fuel with
  | zero => intro L1 L2 _ _ _ _ _ _ _ hf; omega
  | succ fuel ih =>
    intro L1 L2 listed s s1 s2 a w h1 hf hsz hc hso hR hL1 hL2 hlj hl hr1 hp hr2 hs2 hkept hs
    have unl : ∀ i, i < ops.size → listed.getD i false = false → listed.getD i true = false := fun i hi h => by
      have hin : i < listed.size := by omega
      simp [hin] at h ⊢; exact h
    have lis : ∀ i, i < ops.size → listed.getD i false = true → listed.getD i true = false → False := fun i hi h h' => by
      have hin : i < listed.size := by omega
      simp [hin] at h h'
      rw [h] at h'; cases h'
    refine ⟨fun h0 => ?_, fun i hi => ?_⟩
    · -- something is ready
      exfalso
      cases L1 with
      | nil =>
        have : j ∈ Region.ready .any ops listed := by
          rw [mem_ready]
          refine ⟨hlj, oj, hj, fun e he hb => ?_⟩
          have hlt := before j oj hj e he hb
          cases hgd : listed.getD e.on false with
          | true => rfl
          | false =>
            obtain ⟨oe, hoe⟩ : ∃ oe, ops[e.on]? = some oe := ⟨_, Array.getElem?_eq_getElem (by omega)⟩
            obtain ⟨z, hz, hze⟩ := (hl e.on (by omega) (by omega) (low e.on oe hoe hlt)).1 (unl e.on (by omega) hgd)
            have := (hL2 z (by simpa using hz)).1
            omega
        rw [h0] at this; cases this
      | cons x L1 =>
        have hx := hR x (by simp)
        have hxj := hL1 x (by simp)
        have hxlt : x.1 < ops.size := by omega
        have : x.1 ∈ Region.ready .any ops listed := by
          rw [mem_ready]
          refine ⟨(hl x.1 hxlt (by omega) (low x.1 x.2 hx hxj)).2 ⟨x, by simp, rfl⟩, x.2, hx, fun e he hb => ?_⟩
          have hlt := before x.1 x.2 hx e he hb
          cases hgd : listed.getD e.on false with
          | true => rfl
          | false =>
            obtain ⟨oe, hoe⟩ : ∃ oe, ops[e.on]? = some oe := ⟨_, Array.getElem?_eq_getElem (by omega)⟩
            obtain ⟨z, hz, hze⟩ := (hl e.on (by omega) (by omega) (low e.on oe hoe (by omega))).1 (unl e.on (by omega) hgd)
            simp only [List.cons_append, List.mem_cons] at hz
            rcases hz with rfl | hz
            · omega
            · have := hso.1 z hz; omega
        rw [h0] at this; cases this
    · obtain ⟨hi0, o, ho, hall⟩ := mem_ready.1 hi
      have hilt : i < ops.size := (Array.getElem?_eq_some_iff.1 ho).1
      -- what is not listed, and stands before, is apart
      have apart : ∀ (y : Nat × Oper), y ∈ L1 ++ L2 → y.1 < i → ((masks ops.toList []).getD i 0).testBit y.1 = false := fun y hy hyi => by
        cases hb : ((masks ops.toList []).getD i 0).testBit y.1 with
        | false => rfl
        | true =>
          have h2 := anc_listed hc i o ho hall y.1 hb
          have hyo := hR y hy
          have hylt : y.1 < ops.size := (Array.getElem?_eq_some_iff.1 hyo).1
          have hyj : y.1 ≠ j := by
            rcases List.mem_append.1 hy with h | h
            · have := hL1 y h; omega
            · have := (hL2 y h).1; omega
          have hyb : ((masks ops.toList []).getD y.1 0).testBit j = false := by
            rcases List.mem_append.1 hy with h | h
            · exact low y.1 y.2 hyo (hL1 y h)
            · exact (hL2 y h).2
          exact (lis y.1 hylt h2 ((hl y.1 hylt hyj hyb).2 ⟨y, hy, rfl⟩)).elim
      unfold wpOp
      rw [ho]
      by_cases hij : i = j
      · -- the one that panics
        subst hij
        rw [hj] at ho
        cases ho
        show if Region.wanted oj (yielded ops a.tmps) = true then _ else _
        rw [if_pos (by simp [Region.wanted, hg])]
        have hlooks : LooksSame s.tmps s1.tmps (readsOf ops.toList oj) := runL_looks L1 s s1 hr1 fun y hy d hd => by
          have hyi := hL1 y hy
          have hyo := hR y (List.mem_append_left _ hy)
          have hcf := conf y.1 i y.2 oj hyo hj hyi (apart y (List.mem_append_left _ hy) hyi)
          simp only [conflict, Bool.or_eq_false_iff] at hcf
          exact inL_false hcf.1.1.1.1 d hd
        have hp' := panD_at (h := s.heap) (looks_reads hlooks) hp
        obtain ⟨μ, q⟩ := hs
        refine .inl (panD_goes hX q.tmps q.heap q.room hp' _ _ fun w' μ' k1 k2 k3 => hQ a w' ⟨μ', ?_, ?_, q.below.trans k3, Nat.le_trans q.room k3.size, q.defers, q.sub.trans k1⟩)
        · intro i p hb hpg
          obtain ⟨b1, b2⟩ := blank_get _ _ hb hpg
          have h3 := (q.tmps.mono k1).getD i
          rw [List.getD_eq_getElem?_getD, hkept.tmps i b1, b2] at h3
          exact h3.1 hpg
        · rw [← hkept.heap]; exact k2
      · have hbit : ((masks ops.toList []).getD i 0).testBit j = false := by
          cases hb : ((masks ops.toList []).getD i 0).testBit j with
          | false => rfl
          | true =>
            exact (lis j hjlt (anc_listed hc i o ho hall j hb) hlj).elim
        obtain ⟨x, hx, rfl⟩ := (hl i hilt hij hbit).1 hi0
        have hxo : x.2 = o := by have := hR x hx; rw [ho] at this; cases this; rfl
        subst hxo
        obtain ⟨c1, c2⟩ := hcalm x.1 x.2 ho hij hbit
        have hxm : x.2 ∈ ops.toList := List.mem_of_getElem? (by simpa using ho)
        -- the way on
        have goOn : ∀ (M1 M2 : List (Nat × Oper)) (s' t1 t2 : St) (h2 : Heap), stepD X.env true (chkD true (masks ops.toList []) lo x.1) ops.toList (lo + x.1) x.2 s = some s' →
            M1.length + M2.length + 1 ≤ fuel → Sorted (M1 ++ M2) → (∀ y, y ∈ M1 ++ M2 ↔ y ∈ L1 ++ L2 ∧ y.1 ≠ x.1) → (∀ y ∈ M1, y.1 < j) → (∀ y ∈ M2, j < y.1 ∧ ((masks ops.toList []).getD y.1 0).testBit j = false) →
            runL X.env ops.toList (masks ops.toList []) lo M1 s' = some t1 → panD X true t1.tmps t1.heap oj.op = some (ty, h2, true) → runL X.env ops.toList (masks ops.toList []) lo M2 t1 = some t2 → t2.ok = true →
            (if Region.wanted x.2 (yielded ops a.tmps) = true then x.2.wp X.P a w (wpAny X.P .any ops Q fuel (listed.setIfInBounds x.1 true)) Q ∨ (x.2.asks X.P a w ∧ LetsOut Q) else wpAny X.P .any ops Q fuel (listed.setIfInBounds x.1 true) (a.put x.2.dst undef) w) := by
          intro M1 M2 s' t1 t2 h2 hst hf' hso' hM hM1 hM2 e1 e2 e3 e4
          obtain ⟨μ, q⟩ := hs
          have hok' : s'.ok = true := runL_ok M1 s' t1 e1 (runL_ok M2 t1 t2 e3 e4)
          have hgo := step_goes hX.env hst hok' q (wpAny X.P .any ops Q fuel (listed.setIfInBounds x.1 true)) Q fun a' w' hsim => by
            refine ih M1 M2 (listed.setIfInBounds x.1 true) s' t1 t2 a' w' h2 hf' (by simp [hsz]) (fun k ok' hok' hk e he hh => ?_) hso' (fun y hy => hR y ((hM y).1 hy).1) hM1 hM2 ?_ (fun k hk hkj hkb => ?_) e1 e2 e3 e4 (hkept.step rfl hst hxm c1 c2) hsim
            · refine Go.getD_set_true ?_
              by_cases hkx : x.1 = k
              · subst hkx
                rw [ho] at hok'; cases hok'
                exact hall e he hh
              · rw [Go.getD_set_ne false hkx] at hk
                exact hc k ok' hok' hk e he hh
            · rw [Go.getD_set_ne true hij]; exact hlj
            · by_cases hkx : x.1 = k
              · subst hkx
                constructor
                · intro h
                  have hin : x.1 < listed.size := by omega
                  simp [hin] at h
                · rintro ⟨y, hy, hyk⟩
                  exact absurd hyk ((hM y).1 hy).2
              · rw [Go.getD_set_ne true hkx, hl k hk hkj hkb]
                constructor
                · rintro ⟨y, hy, rfl⟩
                  exact ⟨y, (hM y).2 ⟨hy, fun e => hkx e.symm⟩, rfl⟩
                · rintro ⟨y, hy, rfl⟩
                  exact ⟨y, ((hM y).1 hy).1, rfl⟩
          split
          · rename_i hw; rw [if_pos hw] at hgo; exact .inl hgo
          · rename_i hw; rw [if_neg hw] at hgo; exact hgo
        have indep : ∀ y, y ∈ L1 ++ L2 → y.1 < x.1 → Indep X.env.rd X.env.stb ops.toList (masks ops.toList []) lo y x := fun y hy hyx => by
          have hyo := hR y hy
          have b1 := apart y hy hyx
          have b2 : ((masks ops.toList []).getD y.1 0).testBit x.1 = false := by
            cases hb : ((masks ops.toList []).getD y.1 0).testBit x.1 with
            | false => rfl
            | true => have := mask_lt hok y.1 y.2 (by simpa using hyo) x.1 hb; omega
          exact indep_of (rd := X.env.rd) (stb := X.env.stb) (fun _ _ h => h) (fun h => by cases h) (by simpa using hyo) (by simpa using ho) hyx b1 b2 (conf y.1 x.1 y.2 x.2 hyo ho hyx b1)
        rcases List.mem_append.1 hx with hx1 | hx2
        · obtain ⟨A, C, rfl⟩ := List.append_of_mem hx1
          have hso2 : Sorted (A ++ x :: (C ++ L2)) := by simpa using hso
          obtain ⟨g1, g2, g3⟩ := hso2.mid
          obtain ⟨s', k1, k2⟩ := to_front (fun h => by cases h) (top := lo) ⟨fun h => (by cases h), Nat.le_refl _⟩ (fun h => by cases h) A s (fun h => by cases h) (fun y hy => ⟨indep y (by simp [hy]) (g1 y hy), fun h => by cases h⟩) (runL_ok L2 s1 s2 hr2 hs2) hr1
          refine goOn (A ++ C) L2 s' s1 s2 h1 k1 (by simp at hf ⊢; omega) (by simpa using g2) (fun y => ?_) (fun y hy => hL1 y (by simp at hy ⊢; rcases hy with hy | hy <;> simp [hy])) hL2 k2 hp hr2 hs2
          constructor
          · intro hy
            exact ⟨by simp at hy ⊢; rcases hy with hy | hy | hy <;> simp [hy], g3 y (by simpa using hy)⟩
          · rintro ⟨hy, hne⟩
            simp at hy ⊢
            rcases hy with hy | rfl | hy | hy
            · simp [hy]
            · exact absurd rfl hne
            · simp [hy]
            · simp [hy]
        · obtain ⟨A, C, rfl⟩ := List.append_of_mem hx2
          have hso2 : Sorted ((L1 ++ A) ++ x :: C) := by simpa using hso
          obtain ⟨g1, g2, g3⟩ := hso2.mid
          obtain ⟨sx, k1, k2⟩ := to_front (fun h => by cases h) (top := lo) ⟨fun h => (by cases h), Nat.le_refl _⟩ (fun h => by cases h) A s1 (fun h => by cases h) (fun y hy => ⟨indep y (by simp [hy]) (g1 y (by simp [hy])), fun h => by cases h⟩) hs2 hr2
          have hboth : runL X.env ops.toList (masks ops.toList []) lo (L1 ++ x :: []) s = some sx := by
            rw [runL_append, hr1]
            show runL X.env ops.toList (masks ops.toList []) lo [x] s1 = some sx
            simp only [runL, k1]
          obtain ⟨s', k3, k4⟩ := to_front (fun h => by cases h) (top := lo) ⟨fun h => (by cases h), Nat.le_refl _⟩ (fun h => by cases h) L1 s (fun h => by cases h) (fun y hy => ⟨indep y (by simp [hy]) (g1 y (by simp [hy])), fun h => by cases h⟩) (runL_ok (A ++ C) sx s2 k2 hs2) hboth
          rw [List.append_nil] at k4
          have hxj := hL2 x (by simp)
          have hlk : LooksSame sx.tmps s1.tmps (readsOf ops.toList oj) := by
            have := step_looks (l := readsOf ops.toList oj) k1 fun d hd => by
              have hcf := conf j x.1 oj x.2 hj ho hxj.1 hbit
              simp only [conflict, Bool.or_eq_false_iff] at hcf
              exact inL_false hcf.1.1.1.2 d hd
            exact fun i hi => (this i hi).symm
          refine goOn L1 (A ++ C) s' sx s2 sx.heap k3 (by simp at hf ⊢; omega) (by simpa using g2) (fun y => ?_) hL1 (fun y hy => hL2 y (by simp at hy ⊢; rcases hy with hy | hy <;> simp [hy])) k4 (panD_at (looks_reads hlk) hp) k2 hs2
          constructor
          · intro hy
            exact ⟨by simp at hy ⊢; rcases hy with hy | hy | hy <;> simp [hy], g3 y (by simpa using hy)⟩
          · rintro ⟨hy, hne⟩
            simp at hy ⊢
            rcases hy with hy | hy | rfl | hy
            · simp [hy]
            · simp [hy]
            · exact absurd rfl hne
            · simp [hy]
end
end
end Ev
namespace Ev
noncomputable section
open Go Go.RowKit
variable [Frn]

section
variable {X : EnvX} {D : List Deferred} {μ0 : Nat → Option Nat} {B : Nat} {w0 : World}
theorem panR_spec {ops : List Oper} {ms : List Nat} {lo : Nat} {t : TypeId} {q : St} {j : Nat} {r' : List (Nat × Oper)} : ∀ (R : List (Nat × Oper)) (s : St), panR X true ops ms lo R s = some (t, q, j, r') →
    ∃ L1 oj s1 h' k, R = L1 ++ (j, oj) :: r' ∧ runL X.env ops ms lo L1 s = some s1 ∧ oj.guard = none ∧ panD X true s1.tmps s1.heap oj.op = some (t, h', k) ∧ q = ⟨s1.tmps, h', k && s1.ok⟩
  | [], _, h => by cases h
  | x :: R, s, h => by
    unfold panR at h
    cases hst : stepD X.env true (chkD true ms lo x.1) ops (lo + x.1) x.2 s with
    | some s' =>
      rw [hst] at h
      obtain ⟨L1, oj, s1, h', k, e1, e2, e3, e4, e5⟩ := panR_spec R s' h
      exact ⟨x :: L1, oj, s1, h', k, by rw [e1]; rfl, by simp only [runL, hst]; exact e2, e3, e4, e5⟩
    | none =>
      rw [hst] at h
      dsimp only at h
      split at h
      · cases h
      · rename_i hg
        split at h
        · rename_i t0 h' k hp
          cases h
          exact ⟨[], x.2, s, h', k, rfl, rfl, hg, hp, rfl⟩
        · cases h
theorem Sorted.filter {p : Nat × Oper → Bool} : ∀ {R : List (Nat × Oper)}, Sorted R → Sorted (R.filter p)
  | [], _ => trivial
  | x :: R, h => by
    rw [List.filter_cons]
    cases p x with
    | true => exact ⟨fun y hy => h.1 y (List.mem_filter.1 hy).1, Sorted.filter h.2⟩
    | false => exact Sorted.filter h.2
theorem Sorted.join {R : List (Nat × Oper)} {x : Nat × Oper} : ∀ {L : List (Nat × Oper)}, Sorted (L ++ x :: R) → Sorted R ∧ (∀ y ∈ R, x.1 < y.1)
  | [], h => ⟨h.2, h.1⟩
  | _ :: L, h => Sorted.join (L := L) h.2
theorem Sorted.tail2 {p : Nat × Oper → Bool} {R : List (Nat × Oper)} {x : Nat × Oper} : ∀ {L : List (Nat × Oper)}, Sorted (L ++ x :: R) → Sorted (L ++ R.filter p)
  | [], h => Sorted.filter h.2
  | z :: L, h => ⟨fun y hy => h.1 y (by
      rcases List.mem_append.1 hy with k | k
      · simp [k]
      · simp [(List.mem_filter.1 k).1]), Sorted.tail2 (L := L) h.2⟩
theorem panA_goes (hX : EnvXOk X) (hm : X.P.follows .mixedOrders = true) {id : Nat} {ops : Array Oper} {draw : Bool} {s s' : St} {t : TypeId} {w : World} {a : Act} {Q : Exit → Act → World → Prop}
    (hcode : codeOk (.region id ops draw) = true) (hr : panA X draw ops.toList s = some (t, s')) (hok : s'.ok = true) (hs : Sim D μ0 B w0 s a w) (hQ : ∀ a' w', PSim D μ0 B w0 s' a' w' → Q (.panic (chainOf t)) a' w') : (Code.region id ops draw).wp X.P Q a w := by
  unfold panA at hr
  cases hn : hasNew ops.toList with
  | true => rw [hn] at hr; cases hr
  | false =>
    rw [hn, cond_false] at hr
    split at hr
    case h_2 => cases hr
    rename_i t0 q j r hp
    cases draw with
    | false =>
      cases hr
      refine wp_region ?_
      have := seq_pan hX (Q := Q) hQ hok ops.toList 0 s a w rfl hp hs
      rw [List.range_eq_range']
      simpa using this
    | true =>
      rw [cond_true] at hr
      split at hr
      case h_2 => cases hr
      rename_i s2 hr2
      cases hc : (calmB (masks ops.toList []) j (tagL 0 ops.toList) && s2.ok) with
      | false => rw [hc] at hr; cases hr
      | true =>
        rw [hc] at hr
        cases hr
        rw [Bool.and_eq_true] at hc
        obtain ⟨L1, oj, s1, h', k, e1, e2, e3, e4, rfl⟩ := panR_spec _ _ hp
        have hq := runL_ok _ _ _ hr2 hc.2
        have hq : (k && s1.ok) = true := hq
        rw [Bool.and_eq_true] at hq
        obtain ⟨rfl, hs1⟩ := hq
        have hh := panD_heap e4
        subst hh
        have hq1 : (⟨s1.tmps, s1.heap, true && s1.ok⟩ : St) = s1 := by
          cases s1
          rfl
        rw [hq1] at hr2
        obtain ⟨t1, t2, t3, t4⟩ := tagL_spec ops.toList 0
        have hmem : ∀ x ∈ tagL 0 ops.toList, ops[x.1]? = some x.2 := fun x hx => by
          have := (t2 x hx).2
          simpa using this
        rw [e1] at t1 hmem
        have hjm : ops[j]? = some oj := hmem (j, oj) (by simp)
        obtain ⟨s3, s4⟩ := Sorted.join t1
        obtain ⟨s5, _, _⟩ := Sorted.mid t1
        have hmask : ∀ x, freeOf (masks ops.toList []) j x = true ↔ ((masks ops.toList []).getD x.1 0).testBit j = false := fun x => by
          unfold freeOf
          simp
        refine wp_region_any hm ?_
        refine any_pan hX hcode hjm e3 (fun i o ho hi hb => ?_) hQ ops.size L1 (r.filter (freeOf (masks ops.toList []) j)) (Array.replicate ops.size false) s s1 s2 a _ s1.heap ?_ (by simp) (fun i o ho hi => ?_) (Sorted.tail2 t1) (fun x hx => hmem x ?_) s5 (fun x hx => ?_) ?_ (fun i hi hij hb => ?_) e2 e4 hr2 hc.2 ⟨fun _ _ => rfl, rfl⟩ hs.drew
        · obtain ⟨x, hx, he⟩ := t3 i (by simpa using (Array.getElem?_eq_some_iff.1 ho).1)
          have he : x.1 = i := by omega
          have h1 := List.all_eq_true.1 hc.1 x hx
          have h2 : ops[x.1]? = some x.2 := by
            have := (t2 x hx).2
            simpa using this
          rw [he, ho] at h2
          cases h2
          have h3 : Nat.beq x.1 j = false := by
            cases hb' : Nat.beq x.1 j with
            | false => rfl
            | true => exact absurd (he.symm.trans (Nat.eq_of_beq_eq_true hb')) hi
          have h4 : freeOf (masks ops.toList []) j x = true := (hmask x).2 (by rw [he]; exact hb)
          rw [h3, h4] at h1
          simpa using h1
        · have hlen : (tagL 0 ops.toList).length = ops.size := by rw [t4]; simp
          rw [e1] at hlen
          have := List.length_filter_le (freeOf (masks ops.toList []) j) r
          simp at hlen
          omega
        · have hlt : i < ops.size := (Array.getElem?_eq_some_iff.1 ho).1
          simp [hlt] at hi
        · rcases List.mem_append.1 hx with h | h
          · simp [h]
          · simp [(List.mem_filter.1 h).1]
        · obtain ⟨h1, h2⟩ := List.mem_filter.1 hx
          exact ⟨s4 x h1, (hmask x).1 h2⟩
        · have : j < ops.size := (Array.getElem?_eq_some_iff.1 hjm).1
          simp [this]
        · refine ⟨fun _ => ?_, fun _ => by simp [hi]⟩
          obtain ⟨x, hx, he⟩ := t3 i (by simpa using hi)
          have he : x.1 = i := by omega
          rw [e1] at hx
          rcases List.mem_append.1 hx with h | h
          · exact ⟨x, by simp [h], he⟩
          · rcases List.mem_cons.1 h with rfl | h
            · exact absurd he.symm hij
            · exact ⟨x, List.mem_append_right _ (List.mem_filter.2 ⟨h, (hmask x).2 (by rw [he]; exact hb)⟩), he⟩

/-! ### Code that panics -/
inductive ExP where
  | normal
  | exit (id : Nat)
  | ret
  | pan (t : TypeId)
abbrev AnsX := Option (Res × Heap × Bool)
def codeP (X : EnvX) {α : Type} : Nat → Code → St → (ExP → St → Option α) → Option α
  | 0, _, _, _ => none
  | n + 1, c, s, k =>
    match c with
    | .skip => k .normal s
    | .region _ ops draw => match regionD X.env draw ops.toList s with
      | some s' => k .normal s'
      | none => match panA X draw ops.toList s with
        | some (t, s') => k (.pan t) s'
        | none => none
    | .seq a b => codeP X n a s fun
      | .normal, s' => codeP X n b s' k
      | e, s' => k e s'
    | .cond x a b => match evl s.tmps x with
      | (.bool t, g) => bif t then codeP X n a { s with ok := g && s.ok } k else codeP X n b { s with ok := g && s.ok } k
      | _ => none
    | .block id a => codeP X n a s fun
      | .exit j, s' => bif Nat.beq j id then k .normal s' else k (.exit j) s'
      | e, s' => k e s'
    | .loop a => codeP X n a s fun
      | .normal, s' => codeP X n (.loop a) s' k
      | e, s' => k e s'
    | .exit id => k (.exit id) s
    | .scope a => codeP X n a s k
    | .label _ => k .normal s
    | .ret => k .ret s
    | _ => none
def exOfP : ExP → Exit
  | .normal => .normal
  | .exit id => .exit id
  | .ret => .ret
  | .pan t => .panic (chainOf t)
/-- what is known of a state behind a way out -/
def SimX (D : List Deferred) (μ0 : Nat → Option Nat) (B : Nat) (w0 : World) (e : ExP) (s : St) (a : Act) (w : World) : Prop :=
  match e with
  | .pan _ => PSim D μ0 B w0 s a w
  | _ => Sim D μ0 B w0 s a w
theorem panA_ok {draw : Bool} {ops : List Oper} {s s' : St} {t : TypeId} (h : panA X draw ops s = some (t, s')) (hok : s'.ok = true) : s.ok = true := by
  unfold panA at h
  cases hn : hasNew ops with
  | true => rw [hn] at h; cases h
  | false =>
    rw [hn, cond_false] at h
    split at h
    case h_2 => cases h
    rename_i t0 q j r hp
    cases draw with
    | false => cases h; exact panR_ok _ _ hp hok
    | true =>
      rw [cond_true] at h
      split at h
      case h_2 => cases h
      rename_i s2 hr2
      cases hc : (calmB (masks ops []) j (tagL 0 ops) && s2.ok) with
      | false => rw [hc] at h; cases h
      | true =>
        rw [Bool.and_eq_true] at hc
        exact panR_ok _ _ hp (runL_ok _ _ _ hr2 hc.2)
theorem regionD_ok {E : Env} {draw : Bool} {ops : List Oper} {s s' : St} (hr : regionD E draw ops s = some s') (h2 : s'.ok = true) : s.ok = true := by
  unfold regionD at hr
  cases hn : hasNew ops with
  | false => rw [hn] at hr; exact run_ok _ _ _ _ hr h2
  | true => rw [hn] at hr; exact run_ok (s := { s with heap := s.heap ++ List.replicate ops.length none }) _ _ _ hr h2
theorem codeP_ok {α : Type} {r : α} : ∀ (n : Nat) (c : Code) (s : St) (k : ExP → St → Option α), (∀ e s, k e s = some r → s.ok = true) → codeP X n c s k = some r → s.ok = true
  | 0, _, _, _, _, h => by simp [codeP] at h
  | n + 1, c, s, k, hk, h => by
    cases c with
    | skip => exact hk _ _ h
    | region id ops draw =>
      simp only [codeP] at h
      cases hr : regionD X.env draw ops.toList s with
      | some s' => rw [hr] at h; exact regionD_ok hr (hk _ _ h)
      | none =>
        rw [hr] at h
        dsimp only at h
        split at h
        · rename_i t s' hp; exact panA_ok hp (hk _ _ h)
        · cases h
    | seq a b =>
      refine codeP_ok n a s _ (fun e s' he => ?_) h
      cases e with
      | normal => exact codeP_ok n b s' k hk he
      | exit id => exact hk _ _ he
      | ret => exact hk _ _ he
      | pan t => exact hk _ _ he
    | cond x a b =>
      simp only [codeP] at h
      split at h
      · rename_i t g _
        cases t with
        | true => have := codeP_ok n a _ k hk h; simp only [Bool.and_eq_true] at this; exact this.2
        | false => have := codeP_ok n b _ k hk h; simp only [Bool.and_eq_true] at this; exact this.2
      · cases h
    | block id a =>
      refine codeP_ok n a s _ (fun e s' he => ?_) h
      cases e with
      | normal => exact hk _ _ he
      | exit j =>
        simp only at he
        cases hj : Nat.beq j id with
        | true => rw [hj] at he; exact hk _ _ he
        | false => rw [hj] at he; exact hk _ _ he
      | ret => exact hk _ _ he
      | pan t => exact hk _ _ he
    | loop a =>
      refine codeP_ok n a s _ (fun e s' he => ?_) h
      cases e with
      | normal => exact codeP_ok n (.loop a) s' k hk he
      | exit id => exact hk _ _ he
      | ret => exact hk _ _ he
      | pan t => exact hk _ _ he
    | exit id => exact hk _ _ h
    | scope a => exact codeP_ok n a s k hk h
    | label l => exact hk _ _ h
    | ret => exact hk _ _ h
    | _ => simp [codeP] at h
theorem codeP_goes (hX : EnvXOk X) (hm : X.P.follows .mixedOrders = true) {α : Type} {r : α} :
    ∀ (n : Nat) (c : Code) (s : St) (k : ExP → St → Option α) (Q : Exit → Act → World → Prop) (a : Act) (w : World), codeOk c = true → (∀ e s, k e s = some r → s.ok = true) → codeP X n c s k = some r → Sim D μ0 B w0 s a w →
      (∀ e s', k e s' = some r → ∀ a' w', SimX D μ0 B w0 e s' a' w' → Q (exOfP e) a' w') → c.wp X.P Q a w ∧ ∀ b, c = .loop b → Code.rounds X.P b Q n a w := by
  intro n
  induction n with
  | zero => intro c s k Q a w _ _ h; simp [codeP] at h
  | succ n ih =>
    intro c s k Q a w hc hk h hs hQ
    cases c with
    | skip => exact ⟨wp_skip (hQ .normal _ h _ _ hs), by simp⟩
    | region id ops draw =>
      refine ⟨?_, by simp⟩
      simp only [codeP] at h
      cases hrg : regionD X.env draw ops.toList s with
      | some s' =>
        rw [hrg] at h
        exact region_goes hX.env hm hc hrg (hk _ _ h) hs (fun a' w' hs' => hQ .normal s' h a' w' hs')
      | none =>
        rw [hrg] at h
        dsimp only at h
        split at h
        · rename_i t s' hp
          exact panA_goes hX hm hc hp (hk _ _ h) hs (fun a' w' hs' => hQ (.pan t) s' h a' w' hs')
        · cases h
    | seq x y =>
      refine ⟨?_, by simp⟩
      simp only [codeOk, Bool.and_eq_true] at hc
      refine wp_seq (ih x s _ _ a w hc.1 (fun e s' he => ?_) h hs (fun e s' he a' w' hs' => ?_)).1
      · cases e with
        | normal => exact codeP_ok n y s' k hk he
        | exit id => exact hk _ _ he
        | ret => exact hk _ _ he
        | pan t => exact hk _ _ he
      · cases e with
        | normal => exact (ih y s' k Q a' w' hc.2 hk he hs' hQ).1
        | exit id => exact hQ _ _ he a' w' hs'
        | ret => exact hQ _ _ he a' w' hs'
        | pan t => exact hQ _ _ he a' w' hs'
    | cond x y z =>
      refine ⟨?_, by simp⟩
      simp only [codeOk, Bool.and_eq_true] at hc
      simp only [codeP] at h
      split at h
      · rename_i t g he
        have hg : g = true ∧ ∀ (_ : Nat), Sim D μ0 B w0 { s with ok := g && s.ok } a w := by
          have h2 : (g && s.ok) = true := by
            cases t with
            | true => exact codeP_ok n y _ k hk h
            | false => exact codeP_ok n z _ k hk h
          simp only [Bool.and_eq_true] at h2
          obtain ⟨μ, q⟩ := hs
          exact ⟨h2.1, fun _ => ⟨μ, q.tmps, q.heap, q.below, q.room, q.defers, q.sub⟩⟩
        have hx : a.eval x = .bool t := by
          obtain ⟨μ, q⟩ := hs
          have := evl_sound q.tmps x (by rw [he]; exact hg.1)
          rw [he] at this
          exact this.bool_inv
        cases t with
        | true => exact wp_cond_true hx (ih y _ k Q a w hc.1 hk h (hg.2 0) hQ).1
        | false => exact wp_cond_false hx (ih z _ k Q a w hc.2 hk h (hg.2 0) hQ).1
      · cases h
    | block id x =>
      refine ⟨?_, by simp⟩
      simp only [codeOk] at hc
      refine wp_block (ih x s _ _ a w hc (fun e s' he => ?_) h hs (fun e s' he a' w' hs' => ?_)).1
      · cases e with
        | normal => exact hk _ _ he
        | exit j =>
          simp only at he
          cases hj : Nat.beq j id with
          | true => rw [hj] at he; exact hk _ _ he
          | false => rw [hj] at he; exact hk _ _ he
        | ret => exact hk _ _ he
        | pan t => exact hk _ _ he
      · cases e with
        | normal => exact hQ _ _ he a' w' hs'
        | exit j =>
          simp only at he
          simp only [exOfP, Exit.inBlock]
          cases hj : Nat.beq j id with
          | true =>
            rw [hj] at he
            rw [if_pos (Nat.eq_of_beq_eq_true hj)]
            exact hQ .normal _ he a' w' hs'
          | false =>
            rw [hj] at he
            rw [if_neg (Nat.ne_of_beq_eq_false hj)]
            exact hQ (.exit j) _ he a' w' hs'
        | ret => exact hQ _ _ he a' w' hs'
        | pan t => exact hQ _ _ he a' w' hs'
    | loop x =>
      simp only [codeOk] at hc
      have hro : Code.rounds X.P x Q (n + 1) a w := by
        rw [rounds_succ]
        refine (ih x s _ _ a w hc (fun e s' he => ?_) h hs (fun e s' he a' w' hs' => ?_)).1
        · cases e with
          | normal => exact codeP_ok n (.loop x) s' k hk he
          | exit id => exact hk _ _ he
          | ret => exact hk _ _ he
          | pan t => exact hk _ _ he
        · cases e with
          | normal => exact (ih (.loop x) s' k Q a' w' hc hk he hs' hQ).2 x rfl
          | exit id => exact hQ _ _ he a' w' hs'
          | ret => exact hQ _ _ he a' w' hs'
          | pan t => exact hQ _ _ he a' w' hs'
      exact ⟨wp_loop_rounds (n + 1) hro, fun b hb => by cases hb; exact hro⟩
    | exit id => exact ⟨wp_exit (hQ (.exit id) _ h _ _ hs), by simp⟩
    | scope x =>
      refine ⟨?_, by simp⟩
      simp only [codeOk] at hc
      refine wp_scope_straight (ih x s k _ a w hc hk h hs (fun e s' he a' w' hs' => ?_)).1
      cases e <;> exact hQ _ _ he a' w' hs'
    | label l => exact ⟨wp_label (hQ .normal _ h _ _ hs), by simp⟩
    | ret => exact ⟨wp_ret (hQ .ret _ h _ _ hs), by simp⟩
    | _ => simp [codeP] at h
end
end
end Ev
namespace Ev
noncomputable section
open Go Go.RowKit
variable [Frn]

/-! ### Functions that panic -/
def finX (P : Program) (fn : Func) : ExP → St → AnsX
  | .exit _, _ => none
  | .pan t, s => some (.pan t, s.heap, s.ok)
  | _, s => match resAll P s fn.results.toList with
    | some (vs, g) => some (.val (oneOr vs), s.heap, g && s.ok)
    | none => none
theorem finX_ok {P : Program} {fn : Func} {r : Res} {h' : Heap} {e : ExP} {s : St} (he : finX P fn e s = some (r, h', true)) : s.ok = true := by
  cases e with
  | exit id => cases he
  | pan t =>
    simp only [finX, Option.some.injEq, Prod.mk.injEq] at he
    exact he.2.2
  | normal =>
    simp only [finX] at he
    split at he
    · simp only [Option.some.injEq, Prod.mk.injEq, Bool.and_eq_true] at he
      exact he.2.2.2
    · cases he
  | ret =>
    simp only [finX] at he
    split at he
    · simp only [Option.some.injEq, Prod.mk.injEq, Bool.and_eq_true] at he
      exact he.2.2.2
    · cases he
theorem us_fn {P : Program} {us : List FuncId} (hus : us.all (funcOk P) = true) (f : FuncId) (hf : us.any (Nat.beq f) = true) : ∃ fn c, P.funcs[f]? = some fn ∧ fn.body = some c ∧ codeOk c = true ∧ (fn.name == "runtime.NumGoroutine") = false := by
  obtain ⟨g, hg, hgf⟩ := List.any_eq_true.1 hf
  have := Nat.eq_of_beq_eq_true hgf
  subst this
  have := List.all_eq_true.1 hus f hg
  unfold funcOk at this
  cases h1 : P.funcs[f]? with
  | none => rw [h1] at this; cases this
  | some fn =>
    rw [h1] at this
    simp only at this
    cases h2 : fn.body with
    | none => rw [h2] at this; cases this
    | some c =>
      rw [h2] at this
      simp only [Bool.and_eq_true, Bool.not_eq_true'] at this
      exact ⟨fn, c, rfl, h2, this.1, this.2⟩
/-! ### A closure that is deferred, and recovers -/
def recV : Option TypeId → Value
  | some t => pv t
  | none => .nilIface
def finE : Ex → St → Option (Value × Heap × Bool)
  | .exit _, _ => none
  | _, s => some (undef, s.heap, s.ok)
def recB (o : Oper) : Bool :=
  match o.guard with
  | some _ => false
  | none => match o.op with
    | .call c => (match c.callee with | .builtin .recover => true | _ => false)
    | _ => false
def deferC (X : EnvX) (n : Nat) (fn : Func) (c : Code) (caps : List Value) (h : Heap) (rc : Option TypeId) : Option (Value × Heap × Bool) :=
  match c with
  | .seq (.region _ ops false) rest =>
    match ops.toList with
    | o :: r => bif recB o && !hasNew (o :: r) && codeOk rest then
        match runD X.env false (o :: r) (masks (o :: r) []) h.length 1 r ⟨putT (startS fn caps h).tmps o.dst (recV rc, true), h, true⟩ with
        | some s1 => codeK X.env n rest s1 finE
        | none => none
      else none
    | [] => none
  | _ => none
def deferG (X : EnvX) (n : Nat) (id : FuncId) (caps : List Value) (h : Heap) (rc : Option TypeId) : Option (Value × Heap × Bool) :=
  match X.P.funcs[id]? with
  | some fn => match fn.body with
    | some c => bif fn.results.toList.isEmpty && !(fn.name == "runtime.NumGoroutine") then deferC X n fn c caps h rc else none
    | none => none
  | none => none
def modeOf : Option TypeId → FrameMode
  | some t => .panicking (chainOf t)
  | none => .returning

theorem opsS_of_ops {P : Program} {ops : Array Oper} {Q : Exit → Act → List Frame → World → Prop} {cs : List Frame} (hno : ¬ LetsOut fun e a w => Q e a cs w) : ∀ (l : List Nat) (a : Act) (w : World), wpOps P ops (fun e a w => Q e a cs w) l a w → wpOpsS P ops Q l a cs w
  | [], _, _, h => h
  | i :: rest, a, w, h => by
    simp only [wpOps] at h
    simp only [wpOpsS]
    cases ho : ops[i]? with
    | none =>
      simp only [ho] at h ⊢
      exact opsS_of_ops hno rest a w h
    | some o =>
      simp only [ho] at h ⊢
      split
      · rename_i hw
        rw [if_pos hw] at h
        rcases h with h | ⟨_, h⟩
        · have h := Oper.wp_mono (fun a w hh => opsS_of_ops hno rest a w hh) h
          unfold Oper.wp at h
          split
          · rename_i w' hr
            rw [hr] at h
            exact h.elim
          · exact h
        · exact absurd h hno
      · rename_i hw
        rw [if_neg hw] at h
        exact opsS_of_ops hno rest _ w h
theorem finE_some {e : Ex} {s : St} {v : Value} {h' : Heap} {k : Bool} (h : finE e s = some (v, h', k)) : s.ok = k ∧ s.heap = h' ∧ ∀ id, e ≠ .exit id := by
  cases e with
  | exit id => cases h
  | normal =>
    simp only [finE, Option.some.injEq, Prod.mk.injEq] at h
    exact ⟨h.2.2, h.2.1, fun id e => by cases e⟩
  | ret =>
    simp only [finE, Option.some.injEq, Prod.mk.injEq] at h
    exact ⟨h.2.2, h.2.1, fun id e => by cases e⟩
theorem codeK_fin {E : Env} {n : Nat} {c : Code} {s : St} {v : Value} {h' : Heap} (h : codeK E n c s finE = some (v, h', true)) : s.ok = true :=
  codeK_ok n c s finE (fun _ _ he => (finE_some he).1) h
theorem defer_goes {X : EnvX} (hX : EnvXOk X) (hm : X.P.follows .mixedOrders = true) {n : Nat} {id : FuncId} {caps ccaps : List Value} {h h' : Heap} {rc : Option TypeId} {v : Value} (he : deferG X n id caps h rc = some (v, h', true))
    {μ : Nat → Option Nat} {w : World} {B : Nat} (ha : VRL μ caps ccaps) (hh : HeapR μ h w B) (hB : B ≤ w.heap.size) :
    CallsD X.P id ccaps.toArray (modeOf rc) w (fun e u' w' => (∃ v, e = .returned v) ∧ settle u' = .returning ∧ ∃ μ', Sub μ μ' ∧ HeapR μ' h' w' B ∧ Below B w w') ∧ (callFunc id ccaps.toArray).run X.P w = .ok (.enter id ccaps.toArray) w := by
  unfold deferG at he
  split at he
  case h_2 => cases he
  rename_i fn hf
  split at he
  case h_2 => cases he
  rename_i c hb
  cases hc0 : (fn.results.toList.isEmpty && !(fn.name == "runtime.NumGoroutine")) with
  | false => rw [hc0] at he; cases he
  | true =>
    rw [hc0, cond_true] at he
    simp only [Bool.and_eq_true, Bool.not_eq_true'] at hc0
    refine ⟨?_, enters hf hb hc0.2 _ w⟩
    have hres : fn.results = #[] := Array.ext' (by simpa using hc0.1)
    unfold deferC at he
    split at he
    case h_2 => cases he
    rename_i rid ops rest
    split at he
    case h_2 => cases he
    rename_i o r hops
    cases hc : (recB o && !hasNew (o :: r) && codeOk rest) with
    | false => rw [hc] at he; cases he
    | true =>
      rw [hc, cond_true] at he
      simp only [Bool.and_eq_true, Bool.not_eq_true'] at hc
      obtain ⟨⟨hrec, _⟩, hcode⟩ := hc
      split at he
      case h_2 => cases he
      rename_i s1 hrun
      have hs1 := codeK_fin he
      refine callsD_of_wpS hf hb fun c₀ cs hu => ?_
      refine wpS_seq (wpS_region ?_)
      have hsz : ops.size = r.length + 1 := by
        have := congrArg List.length hops
        simpa using this
      have h0 : ops[0]? = some o := by
        have : ops.toList[0]? = some o := by rw [hops]; rfl
        simpa using this
      rw [hsz, List.range_eq_range', List.range'_succ]
      simp only [wpOpsS, h0]
      obtain ⟨hg, hr0⟩ : o.guard = none ∧ ∀ ρ w, (execOp ρ o).run X.P w = .ok .recover w := by
        unfold recB at hrec
        split at hrec
        · cases hrec
        · rename_i hg
          refine ⟨hg, fun ρ w => ?_⟩
          split at hrec
          · rename_i c hop
            split at hrec
            · rename_i hcal
              simp only [execOp, hop, resolve, hcal, Sem.run_bind, Sem.run_pure, Result.andThen_ok, invoke]
              rfl
            · cases hrec
          · cases hrec
      rw [if_pos (by simp [Region.wanted, hg]), hr0]
      have st := start_sim (fn := fn) ha hh hB
      -- behind 'recover'
      have key : ∀ u' cs', cs' = { c₀ with mode := u' } :: cs → settle u' = .returning → wpOpsS X.P ops (Exit.thenS (rest.wpS X.P (bodyPostS X.P fn c₀ cs fun e u' w' => (∃ v, e = .returned v) ∧ settle u' = .returning ∧ ∃ μ', Sub μ μ' ∧ HeapR μ' h' w' B ∧ Below B w w')) (bodyPostS X.P fn c₀ cs fun e u' w' => (∃ v, e = .returned v) ∧ settle u' = .returning ∧ ∃ μ', Sub μ μ' ∧ HeapR μ' h' w' B ∧ Below B w w'))
          (List.range' (0 + 1) r.length) (({ tmps := ccaps.toArray ++ Array.replicate (fn.ntmps - ccaps.toArray.size) undef, defers := [] } : Act).put o.dst (recV rc)) cs' w := by
        intro u' cs' hcs hset
        have hno : ¬ LetsOut fun e a w' => Exit.thenS (rest.wpS X.P (bodyPostS X.P fn c₀ cs fun e u' w' => (∃ v, e = .returned v) ∧ settle u' = .returning ∧ ∃ μ', Sub μ μ' ∧ HeapR μ' h' w' B ∧ Below B w w')) (bodyPostS X.P fn c₀ cs fun e u' w' => (∃ v, e = .returned v) ∧ settle u' = .returning ∧ ∃ μ', Sub μ μ' ∧ HeapR μ' h' w' B ∧ Below B w w') e a cs' w' := by
          rintro ⟨a, w', u2, ⟨v2, h2⟩, _⟩
          cases h2
        refine opsS_of_ops hno _ _ _ ?_
        have hrun' : runD X.env false ops.toList (masks (o :: r) []) h.length 1 r ⟨putT (startS fn caps h).tmps o.dst (recV rc, true), h, true⟩ = some s1 := by rw [hops]; exact hrun
        refine run_seq (D := []) (μ0 := μ) (B := B) (w0 := w) hX.env (s' := s1) (fun a' w' hsim => ?_) hs1 (fun i r s hh => run_ok r i s s1 hh hs1) r 1 _ _ w (by rw [hops]; rfl) hrun' ⟨μ, ?_, hh, Below.refl B w, hB, put_defers _ _ _, Sub.refl μ⟩
        · show rest.wpS X.P _ a' cs' w'
          refine wpS_of_wp ?_
          refine (code_goes (E := X.env) (D := []) (B := B) (w0 := w) (μ0 := μ) hX.env hm (r := (v, h', true)) n rest s1 finE _ a' w' hcode (fun _ _ hh => (finE_some hh).1) he hsim (fun e s hh a2 w2 hsim2 => ?_)).1
          · obtain ⟨μ2, q⟩ := hsim2
            have hend : a2.defers = [] ∧ ∃ u2, cs' = { c₀ with mode := u2 } :: cs ∧ ∃ v2, (results fn a2.tmps).run X.P w2 = .ok v2 w2 ∧ ((∃ v, Ending.returned v2 = .returned v) ∧ settle u2 = .returning ∧ ∃ μ', Sub μ μ' ∧ HeapR μ' h' w2 B ∧ Below B w w2) := by
              refine ⟨q.defers, u', hcs, .tuple #[], ?_, ⟨_, rfl⟩, hset, μ2, q.sub, ?_, q.below⟩
              · rw [results_eq, hres, Array.mapM_eq_mapM_toList]
                simp
              · rw [← (finE_some hh).2.1]; exact q.heap
            cases e with
            | exit id => exact absurd rfl ((finE_some hh).2.2 id)
            | normal => exact hend
            | ret => exact hend
        · refine st.tmps.put o.dst ⟨fun _ => ?_, fun e => (by cases e)⟩
          cases rc with
          | none => exact .nilIface
          | some t => exact .iface t
      cases rc with
      | some t =>
        have hrd : recoverD (c₀ :: cs) = some (pv t, { c₀ with mode := .panicking [{ v := pv t, recovered := true }] } :: cs) := by
          simp only [recoverD, hu, modeOf]
        simp only [hrd]
        exact key _ _ rfl rfl
      | none =>
        have hrd : recoverD (c₀ :: cs) = none := by
          simp only [recoverD, hu, modeOf]
        simp only [hrd]
        exact key .returning _ (by rw [← show c₀.mode = .returning from hu]) rfl
end
end Ev
namespace Ev
noncomputable section
open Go Go.RowKit
variable [Frn]

/-! ### A function that defers a closure first -/
def deferOf (o : Oper) : Option Operand :=
  match o.guard with
  | some _ => none
  | none => match o.dst with
    | some _ => none
    | none => match o.op with
      | .defer c => (match c.callee with
        | .value f => bif c.args.toList.isEmpty then some f else none
        | _ => none)
      | _ => none
def leaveH (X : EnvX) (n : Nat) (fn : Func) (id : FuncId) (caps : List Value) (s : St) (rc : Option TypeId) : Option (Value × Bool) :=
  match deferG X n id caps s.heap rc with
  | some (_, h', k) => match resAll X.P ⟨s.tmps, h', true⟩ fn.results.toList with
    | some (vs, g) => some (oneOr vs, g && (k && s.ok))
    | none => none
  | none => none
def leaveG (X : EnvX) (n : Nat) (fn : Func) (id : FuncId) (caps : List Value) : ExP → St → Option (Value × Bool)
  | .exit _, _ => none
  | .pan t, s => leaveH X n fn id caps s (some t)
  | _, s => leaveH X n fn id caps s none
def guardR (X : EnvX) (n : Nat) (fn : Func) (rest : Code) (f : Operand) (s : St) : Option (Value × Bool) :=
  match evl s.tmps f with
  | (.func (.func id) first caps, g) => bif g && first.toList.isEmpty then codeP X n rest s (leaveG X n fn id caps.toList) else none
  | _ => none
def guardD1 (X : EnvX) (n : Nat) (fn : Func) (o1 : List Oper) (rest : Code) (s1 : St) : Option (Value × Bool) :=
  match o1.getLast? with
  | some o => match deferOf o with
    | some f => bif hasNew o1 || !codeOk rest then none else
      match runD X.env false o1 (masks o1 []) s1.heap.length 0 o1.dropLast s1 with
      | some s2 => guardR X n fn rest f s2
      | none => none
    | none => none
  | none => none
def guardC (X : EnvX) (n : Nat) (fn : Func) (c : Code) (args : List Value) : Option (Value × Bool) :=
  match c with
  | .seq (.region _ o0 false) (.seq (.region _ o1 false) rest) =>
    match regionD X.env false o0.toList (startS fn args []) with
    | some s1 => guardD1 X n fn o1.toList rest s1
    | none => none
  | _ => none
def guardG (X : EnvX) (n : Nat) (f : FuncId) (args : List Value) : Option (Value × Bool) :=
  match X.P.funcs[f]? with
  | some fn => match fn.body with
    | some c => guardC X n fn c args
    | none => none
  | none => none

section
variable {X : EnvX} {D : List Deferred} {μ0 : Nat → Option Nat} {B : Nat} {w0 : World}
theorem TmpsW.getD {μ : Nat → Option Nat} {t : List (Value × Bool)} {c : Array Value} (h : TmpsW μ t c) (i : Nat) (hg : (t.getD i (undef, false)).2 = true) : VR μ (t.getD i (undef, false)).1 (c.getD i undef) := by
  rw [List.getD_eq_getElem?_getD] at hg ⊢
  cases hi : t[i]? with
  | none => rw [hi] at hg; cases hg
  | some p =>
    rw [hi] at hg
    exact h i p hi hg
theorem TmpsW.mono {μ μ' : Nat → Option Nat} {t : List (Value × Bool)} {c : Array Value} (hs : Sub μ μ') (h : TmpsW μ t c) : TmpsW μ' t c := fun i p hp hg => (h i p hp hg).mono hs
theorem res_runW {P : Program} {μ : Nat → Option Nat} {t : List (Value × Bool)} {h : Heap} {B : Nat} {w : World} {c : Array Value} (ht : TmpsW μ t c) (hh : HeapR μ h w B) :
    ∀ (l : List ResultVar) (vs : List Value) (g : Bool), resAll P ⟨t, h, true⟩ l = some (vs, g) → g = true →
      ∃ cs, (l.mapM (resSem c)).run P w = .ok cs w ∧ VRL μ vs cs
  | [], vs, g, h, hg => by
    simp only [resAll, Option.some.injEq, Prod.mk.injEq] at h
    obtain ⟨rfl, _⟩ := h
    exact ⟨[], rfl, VRL.nil⟩
  | x :: l, vs, g, hr, hg => by
    simp only [resAll] at hr
    cases hx : resD P ⟨t, h, true⟩ x with
    | none => rw [hx] at hr; cases hr
    | some p =>
      obtain ⟨v, g1⟩ := p
      rw [hx] at hr
      simp only at hr
      cases hl : resAll P ⟨t, h, true⟩ l with
      | none => rw [hl] at hr; cases hr
      | some q =>
        obtain ⟨vs', g2⟩ := q
        rw [hl] at hr
        simp only [Option.some.injEq, Prod.mk.injEq] at hr
        obtain ⟨rfl, rfl⟩ := hr
        simp only [Bool.and_eq_true] at hg
        obtain ⟨cs, hcs, hvr⟩ := res_runW ht hh l vs' g2 hl hg.2
        have one : ∃ y, (resSem c x).run P w = .ok y w ∧ VR μ v y := by
          cases x with
          | tmp i =>
            simp only [resD, Option.some.injEq] at hx
            have h1 := ht.getD i (by rw [hx]; exact hg.1)
            rw [hx] at h1
            exact ⟨_, rfl, h1⟩
          | cell i ty =>
            simp only [resD] at hx
            cases hld : loadD P (fun _ => true) h ty (t.getD i (undef, false)).1 with
            | none => rw [hld] at hx; cases hx
            | some u =>
              rw [hld] at hx
              simp only [Option.some.injEq, Prod.mk.injEq] at hx
              obtain ⟨rfl, hgx⟩ := hx
              have h1 := ht.getD i (by rw [hgx]; exact hg.1)
              obtain ⟨y, hc, hv⟩ := load_run (w := w) hh h1 hld
              refine ⟨y, ?_, hv⟩
              unfold loadD at hld
              split at hld
              · rename_i b o heq
                rw [heq] at h1
                obtain ⟨b', hb', _⟩ := h1.ptr_inv
                rw [hb'] at hc
                simp only [resSem, hb']
                simpa [Instr.loadAt, Instr.sureAddr, asAddr] using hc
              · rename_i k o sp heq
                rw [heq] at h1
                generalize hax : c.getD i undef = y at *
                cases h1 with
                | ptrF _ _ l c b o' hrel =>
                  simp only [resSem, hax]
                  simpa [Instr.loadAt, Instr.sureAddr, asAddr] using hc
              · cases hld
        obtain ⟨y, hc, hv⟩ := one
        refine ⟨y :: cs, ?_, VRL.cons hv hvr⟩
        rw [List.mapM_cons, Sem.run_bind, hc, Result.andThen_ok, Sem.run_bind, hcs, Result.andThen_ok]
        rfl
theorem run_pre {E : Env} (hE : EnvOk E) {ops : Array Oper} {ms : List Nat} {lo : Nat} {Q : Exit → Act → World → Prop} {s' : St} {o : Oper} (hok : s'.ok = true) :
    ∀ (r : List Oper) (i : Nat) (s : St) (a : Act) (w : World), ops.toList.drop i = r ++ [o] → runD E false ops.toList ms lo i r s = some s' → Sim D μ0 B w0 s a w →
      (∀ a' w', Sim D μ0 B w0 s' a' w' → wpOp E.P ops Q (i + r.length) (wpOps E.P ops Q []) a' w') → wpOps E.P ops Q (List.range' i (r.length + 1)) a w := by
  intro r
  induction r with
  | nil =>
    intro i s a w _ hr hs hQ
    simp only [runD, Option.some.injEq] at hr
    subst hr
    rw [List.length_nil, Nat.zero_add, List.range'_one, wpOps_cons]
    exact hQ a w hs
  | cons p r ih =>
    intro i s a w hd hr ⟨μ, hs⟩ hQ
    simp only [runD] at hr
    cases hst : stepD E false (chkD false ms lo i) ops.toList (lo + i) p s with
    | none => rw [hst] at hr; cases hr
    | some s1 =>
      rw [hst] at hr
      simp only at hr
      have ho : ops[i]? = some p := by
        have : (ops.toList.drop i)[0]? = some p := by rw [hd]; rfl
        rw [List.getElem?_drop] at this
        simpa using this
      have hd' : ops.toList.drop (i + 1) = r ++ [o] := by
        have := congrArg (List.drop 1) hd
        rw [List.drop_drop] at this
        simpa using this
      rw [List.length_cons, List.range'_succ, wpOps_cons]
      unfold wpOp
      rw [ho]
      have hgo := step_goes hE hst (run_ok _ _ _ _ hr hok) hs (wpOps E.P ops Q (List.range' (i + 1) (r.length + 1))) Q (fun a' w' hs' => ih (i + 1) s1 a' w' hd' hr hs' fun a2 w2 h2 => by
        have := hQ a2 w2 h2
        rwa [List.length_cons, show i + (r.length + 1) = i + 1 + r.length by omega] at this)
      show if Region.wanted p (yielded ops a.tmps) = true then _ else _
      split
      · rename_i hw; rw [if_pos hw] at hgo; exact .inl hgo
      · rename_i hw; rw [if_neg hw] at hgo; exact hgo
theorem leaveH_ok {n : Nat} {fn : Func} {id : FuncId} {caps : List Value} {s : St} {rc : Option TypeId} {v : Value} (h : leaveH X n fn id caps s rc = some (v, true)) : s.ok = true := by
  unfold leaveH at h
  split at h
  · split at h
    · simp only [Option.some.injEq, Prod.mk.injEq, Bool.and_eq_true] at h
      exact h.2.2.2
    · cases h
  · cases h
theorem leaveG_ok {n : Nat} {fn : Func} {id : FuncId} {caps : List Value} {e : ExP} {s : St} {v : Value} (h : leaveG X n fn id caps e s = some (v, true)) : s.ok = true := by
  cases e with
  | exit id => cases h
  | pan t => exact leaveH_ok h
  | normal => exact leaveH_ok h
  | ret => exact leaveH_ok h
theorem leave_goes (hX : EnvXOk X) (hm : X.P.follows .mixedOrders = true) {n : Nat} {fn : Func} {id : FuncId} {caps ccaps : List Value} {s : St} {rc : Option TypeId} {v : Value} (h : leaveH X n fn id caps s rc = some (v, true))
    {μ : Nat → Option Nat} {w : World} {c : Array Value} (ht : TmpsW μ s.tmps c) (hh : HeapR μ s.heap w B) (hB : B ≤ w.heap.size) (hc : VRL μ caps ccaps) {R : Ending → World → Prop} (hR : ∀ u w' μ', VR μ' v u → Below B w w' → R (.returned u) w') :
    Leaves X.P fn c R [{ target := .fn (.func id) ccaps.toArray, args := #[] }] (modeOf rc) w := by
  unfold leaveH at h
  split at h
  case h_2 => cases h
  rename_i v0 h' k hd
  split at h
  case h_2 => cases h
  rename_i vs g hra
  simp only [Option.some.injEq, Prod.mk.injEq, Bool.and_eq_true] at h
  obtain ⟨rfl, rfl, rfl, hok⟩ := h
  obtain ⟨d1, d2⟩ := defer_goes hX hm hd hc hh hB
  refine leaves_cons (by cases rc <;> simp [modeOf]) ?_ (d1.mono fun e u' w' hx => ?_)
  · simp only [invoke]
    rw [show (#[] : Array Value) ++ ccaps.toArray = ccaps.toArray by simp]
    exact d2
  · obtain ⟨⟨v2, rfl⟩, hset, μ', hs, hhr, hbl⟩ := hx
    show Leaves X.P fn c R [] (settle u') w'
    rw [hset]
    obtain ⟨cs, hcs, hvr⟩ := res_runW (P := X.P) (ht.mono hs) hhr fn.results.toList vs true hra rfl
    refine ⟨_, ?_, hR _ w' μ' (oneOr_VR hvr) hbl⟩
    rw [results_eq, Array.mapM_eq_mapM_toList, Sem.run_bind, Sem.run_map, hcs]
    rfl
theorem guard_goes (hX : EnvXOk X) (hm : X.P.follows .mixedOrders = true) {n : Nat} {f : FuncId} {args : List Value} {v : Value} (h : guardG X n f args = some (v, true)) (hp : args.all plainB = true) (hv : plainB v = true)
    {μ : Nat → Option Nat} {cargs : List Value} (ha : VRL μ args cargs) (w : World) (hw : FrnIn w) : Calls X.P f cargs.toArray w fun e w' => ∃ v', e = .returned v' ∧ VR μ v v' ∧ Below w.heap.size w w' := by
  unfold guardG at h
  split at h
  case h_2 => cases h
  rename_i fn hf
  split at h
  case h_2 => cases h
  rename_i c hb
  unfold guardC at h
  split at h
  case h_2 => cases h
  rename_i i0 o0 i1 o1 rest
  split at h
  case h_2 => cases h
  rename_i s1 hs1
  unfold guardD1 at h
  split at h
  case h_2 => cases h
  rename_i o hlast
  split at h
  case h_2 => cases h
  rename_i fo hdf
  cases hc : (hasNew o1.toList || !codeOk rest) with
  | true => rw [hc] at h; cases h
  | false =>
    rw [hc, cond_false] at h
    simp only [Bool.or_eq_false_iff, Bool.not_eq_false'] at hc
    split at h
    case h_2 => cases h
    rename_i s2 hs2
    unfold guardR at h
    split at h
    case h_2 => cases h
    rename_i id first caps g he
    cases hgf : (g && first.toList.isEmpty) with
    | false => rw [hgf] at h; cases h
    | true =>
      rw [hgf, cond_true] at h
      rw [Bool.and_eq_true] at hgf
      obtain ⟨rfl, hfe⟩ := hgf
      have hok2 : s2.ok = true := codeP_ok n rest s2 _ (fun e s he => leaveG_ok he) h
      have hok1 : s1.ok = true := run_ok _ _ _ _ hs2 hok2
      have hR : ∀ (e : Ending) (w' : World), (∃ v' μ', e = .returned v' ∧ VR μ' v v' ∧ Below w.heap.size w w') → ∃ v', e = .returned v' ∧ VR μ v v' ∧ Below w.heap.size w w' := fun e w' ⟨v', μ', e1, e2, e3⟩ => ⟨v', e1, plain_VR e2 hv, e3⟩
      refine Calls.mono ?_ hR
      refine calls_of_wp_defers hf hb ?_
      have st := start_sim (μ := fun _ => none) (fn := fn) (h := []) (plain_VRL ha hp) (HeapR.start hw) (Nat.le_refl w.heap.size)
      refine wp_seq (region_goes (D := []) (B := w.heap.size) (w0 := w) (μ0 := fun _ => none) hX.env hm rfl hs1 hok1 ⟨_, st⟩ fun a1 w1 sim1 => ?_)
      refine wp_seq (wp_region ?_)
      have hne : o1.toList ≠ [] := fun e => by rw [e] at hlast; cases hlast
      have hsplit : o1.toList = o1.toList.dropLast ++ [o] := by
        have := List.dropLast_concat_getLast hne
        rw [List.getLast?_eq_some_getLast hne, Option.some.injEq] at hlast
        rw [hlast] at this
        exact this.symm
      have hsz : o1.size = o1.toList.dropLast.length + 1 := by
        have := congrArg List.length hsplit
        simpa using this
      have holast : o1[o1.toList.dropLast.length]? = some o := by
        have : o1.toList[o1.toList.dropLast.length]? = some o := by
          rw [hsplit, List.dropLast_concat]
          simp
        simpa using this
      rw [hsz, List.range_eq_range']
      refine run_pre (D := []) (μ0 := fun _ => none) (B := w.heap.size) (w0 := w) hX.env hok2 o1.toList.dropLast 0 s1 a1 w1 hsplit hs2 sim1 fun a2 w2 sim2 => ?_
      rw [Nat.zero_add]
      unfold wpOp
      rw [holast]
      obtain ⟨μ2, q⟩ := sim2
      have hfo := evl_sound q.tmps fo (by rw [he])
      rw [he] at hfo
      obtain ⟨f', c', hfe', q1, q2⟩ := hfo.func_inv
      have hf0 : f' = #[] := by
        have : first.toList = [] := List.isEmpty_iff.1 hfe
        have h2 := q1.1
        rw [this] at h2
        exact Array.ext' (List.length_eq_zero_iff.1 h2.symm)
      subst hf0
      obtain ⟨hg, hd, hrun⟩ : o.guard = none ∧ o.dst = none ∧ (execOp a2.eval o).run X.P w2 = .ok (.defer { target := .fn (.func id) c'.toList.toArray, args := #[] }) w2 := by
        unfold deferOf at hdf
        split at hdf
        · cases hdf
        · rename_i hg
          split at hdf
          · cases hdf
          · rename_i hd
            split at hdf
            · rename_i c hop
              split at hdf
              · rename_i f0 hcal
                cases hargs : c.args.toList.isEmpty with
                | false => rw [hargs] at hdf; cases hdf
                | true =>
                  rw [hargs] at hdf
                  cases hdf
                  have h0 : c.args = #[] := Array.ext' (by simpa using hargs)
                  refine ⟨hg, hd, ?_⟩
                  simp only [execOp, hop, resolve, hcal, h0, hfe', Deferred.ofValue, Sem.run_bind, Sem.run_pure, Result.andThen_ok]
                  simp
              · cases hdf
            · cases hdf
      show if Region.wanted o (yielded o1 a2.tmps) = true then _ else _
      rw [if_pos (by simp [Region.wanted, hg])]
      refine .inl ?_
      unfold Oper.wp
      rw [show (execOp a2.eval o).run X.env.P w2 = _ from hrun, Oper.upon_defer, hd]
      show Code.wp X.P rest _ _ w2
      refine (codeP_goes (D := { target := .fn (.func id) c'.toList.toArray, args := #[] } :: a2.defers) (B := w.heap.size) (w0 := w) (μ0 := μ2) hX hm (r := (v, true)) n rest s2 _ _ { a2 with defers := { target := .fn (.func id) c'.toList.toArray, args := #[] } :: a2.defers } w2 hc.2 (fun e s he => leaveG_ok he) h ⟨μ2, q.tmps, q.heap, q.below, q.room, rfl, Sub.refl μ2⟩ fun e s3 he3 a3 w3 sim3 => ?_).1
      have hdef : a2.defers = [] := q.defers
      have fin : ∀ rc, leaveH X n fn id caps.toList s3 rc = some (v, true) → (∃ μ3, TmpsW μ3 s3.tmps a3.tmps ∧ HeapR μ3 s3.heap w3 w.heap.size ∧ Below w.heap.size w w3 ∧ w.heap.size ≤ w3.heap.size ∧ a3.defers = { target := .fn (.func id) c'.toList.toArray, args := #[] } :: a2.defers ∧ Sub μ2 μ3) →
          Leaves X.P fn a3.tmps (fun e w' => ∃ v' μ', e = .returned v' ∧ VR μ' v v' ∧ Below w.heap.size w w') a3.defers (modeOf rc) w3 := fun rc hl ⟨μ3, k1, k2, k3, k4, k5, k6⟩ => by
        rw [k5, hdef]
        exact leave_goes hX hm hl k1 k2 k4 (q2.mono k6) fun u w' μ' hvr hbl => ⟨u, μ', rfl, hvr, k3.trans hbl⟩
      cases e with
      | exit id => cases he3
      | pan t =>
        obtain ⟨μ3, p⟩ := sim3
        exact fin (some t) he3 ⟨μ3, p.tmps, p.heap, p.below, p.room, p.defers, p.sub⟩
      | normal =>
        obtain ⟨μ3, p⟩ := sim3
        exact fin none he3 ⟨μ3, p.tmps.toW, p.heap, p.below, p.room, p.defers, p.sub⟩
      | ret =>
        obtain ⟨μ3, p⟩ := sim3
        exact fin none he3 ⟨μ3, p.tmps.toW, p.heap, p.below, p.room, p.defers, p.sub⟩
end
end
end Ev
namespace Ev
noncomputable section
open Go Go.RowKit
variable [Frn]

/-! ### Functions that may panic, over those that don't -/
def liftX (call : CallD) : CallX := fun f a h => match call f a h with
  | some (v, h', k) => some (.val v, h', k)
  | none => none
def funPL (P : Program) (ext orc : Orc) (us ps : List FuncId) (cf d : Nat) : Nat → CallX
  | 0 => fun f args h => bif ps.any (Nat.beq f) then none else liftX (funD P ext orc us cf d) f args h
  | e + 1 => fun f args h => bif ps.any (Nat.beq f) then
      match P.funcs[f]? with
      | some fn => match fn.body with
        | some c => codeP ⟨P, ext, funPL P ext orc us ps cf d e⟩ cf c (startS fn args h) (finX P fn)
        | none => none
      | none => none
    else liftX (funD P ext orc us cf d) f args h
theorem liftX_some {call : CallD} {f : FuncId} {a : List Value} {h h' : Heap} {r : Res} {k : Bool} (e : liftX call f a h = some (r, h', k)) : ∃ v, r = .val v ∧ call f a h = some (v, h', k) := by
  unfold liftX at e
  split at e
  · rename_i v h2 k2 hc
    cases e
    exact ⟨v, rfl, hc⟩
  · cases e
theorem funPL_goes {P : Program} {ext orc : Orc} {us ps : List FuncId} {cf d : Nat} (hm : P.follows .mixedOrders = true) (hus : us.all (funcOk P) = true) (hps : ps.all (funcOk P) = true) (hext : ExtOk P ext) (horc : OrcOk P orc) (hcon : ConOk P) : ∀ e, EnvXOk ⟨P, ext, funPL P ext orc us ps cf d e⟩ := by
  have hb := fun_goes (cf := cf) hm hus hext horc hcon d
  have low : ∀ f args h r h' k, liftX (funD P ext orc us cf d) f args h = some (r, h', k) → k = true → ∀ μ cargs w B, VRL μ args cargs → HeapR μ h w B → B ≤ w.heap.size →
      Calls P f cargs.toArray w fun e w' => ∃ μ', Sub μ μ' ∧ EndR μ' r e ∧ HeapR μ' h' w' B ∧ Below B w w' := fun f args h r h' k hr hk μ cargs w B ha hh hB => by
    obtain ⟨v, rfl, hc⟩ := liftX_some hr
    refine (hb.call f args h v h' k hc hk μ cargs w B ha hh hB).mono fun e w' hx => ?_
    obtain ⟨v', μ', h1, h2, h3, h4, h5⟩ := hx
    exact ⟨μ', h2, ⟨v', h1, h3⟩, h4, h5⟩
  have lowE : ∀ f args h r, liftX (funD P ext orc us cf d) f args h = some r → ∀ cargs w, (callFunc f cargs).run P w = .ok (.enter f cargs) w := fun f args h r hr cargs w => by
    obtain ⟨r1, h', k⟩ := r
    obtain ⟨v, rfl, hc⟩ := liftX_some hr
    exact hb.enter f args h _ hc cargs w
  intro e
  induction e with
  | zero =>
    refine ⟨hext, fun f args h r h' k hr hk μ cargs w B ha hh hB => ?_, fun f args h r hr cargs w => ?_⟩
    · have hr : funPL P ext orc us ps cf d 0 f args h = some (r, h', k) := hr
      simp only [funPL] at hr
      cases hu : ps.any (Nat.beq f) with
      | true => rw [hu] at hr; cases hr
      | false => rw [hu] at hr; exact low f args h r h' k hr hk μ cargs w B ha hh hB
    · have hr : funPL P ext orc us ps cf d 0 f args h = some r := hr
      simp only [funPL] at hr
      cases hu : ps.any (Nat.beq f) with
      | true => rw [hu] at hr; cases hr
      | false => rw [hu] at hr; exact lowE f args h r hr cargs w
  | succ e ih =>
    refine ⟨hext, fun f args h r h' k hr hk μ cargs w B ha hh hB => ?_, fun f args h r hr cargs w => ?_⟩
    · have hr : funPL P ext orc us ps cf d (e + 1) f args h = some (r, h', k) := hr
      simp only [funPL] at hr
      cases hu : ps.any (Nat.beq f) with
      | false => rw [hu] at hr; exact low f args h r h' k hr hk μ cargs w B ha hh hB
      | true =>
        rw [hu] at hr
        obtain ⟨fn, c, h1, h2, h3, h4⟩ := us_fn hps f hu
        simp only [cond_true, h1, h2] at hr
        subst hk
        refine calls_of_wp h1 h2 ?_
        have fin : ∀ s a' w', Sim [] μ B w s a' w' → (match resAll P s fn.results.toList with
            | some (vs, g) => some (Res.val (oneOr vs), s.heap, g && s.ok)
            | none => none) = some (r, h', true) →
            a'.defers = [] ∧ ∃ u, (results fn a'.tmps).run P w' = .ok u w' ∧ ∃ μ', Sub μ μ' ∧ EndR μ' r (.returned u) ∧ HeapR μ' h' w' B ∧ Below B w w' := by
          intro s a' w' hs hres
          split at hres
          case h_2 => cases hres
          rename_i vs g hra
          simp only [Option.some.injEq, Prod.mk.injEq, Bool.and_eq_true] at hres
          obtain ⟨rfl, rfl, hg, hok⟩ := hres
          obtain ⟨μ', q⟩ := hs
          obtain ⟨cs, hcs, hvr⟩ := res_run (P := P) q fn.results.toList vs g hra hg
          refine ⟨q.defers, _, ?_, μ', q.sub, ⟨_, rfl, oneOr_VR hvr⟩, q.heap, q.below⟩
          rw [results_eq, Array.mapM_eq_mapM_toList, Sem.run_bind, Sem.run_map, hcs]
          rfl
        refine (codeP_goes (D := []) (B := B) (w0 := w) (μ0 := μ) ih hm (r := (r, h', true)) cf c (startS fn args h) (finX P fn) _ _ w h3 (fun e s he => finX_ok he) hr ⟨μ, start_sim ha hh hB⟩ (fun e s he a' w' hs => ?_)).1
        cases e with
        | normal => exact fin s a' w' hs he
        | ret => exact fin s a' w' hs he
        | exit id => cases he
        | pan t =>
          simp only [finX, Option.some.injEq, Prod.mk.injEq] at he
          obtain ⟨rfl, rfl, _⟩ := he
          obtain ⟨μ', q⟩ := hs
          exact ⟨q.defers, μ', q.sub, rfl, q.heap, q.below⟩
    · have hr : funPL P ext orc us ps cf d (e + 1) f args h = some r := hr
      simp only [funPL] at hr
      cases hu : ps.any (Nat.beq f) with
      | false => rw [hu] at hr; exact lowE f args h r hr cargs w
      | true =>
        obtain ⟨fn, c, h1, h2, h3, h4⟩ := us_fn hps f hu
        exact enters h1 h2 h4 cargs w
/-- a contract: what a function that defers a closure answers -/
def guardO (X : EnvX) (n : Nat) (f : FuncId) : Sig := fun args =>
  bif args.all plainB then match guardG X n f args with
    | some (v, k) => bif plainB v then some (v, k) else none
    | none => none
  else none
theorem guard_oneF {P : Program} {exte orce : List (Nat × Sig)} {us ps : List FuncId} {cf d e n : Nat} {f : FuncId} (hm : P.follows .mixedOrders = true) (hus : us.all (funcOk P) = true) (hps : ps.all (funcOk P) = true)
    (hext : ∀ p ∈ exte, ExtOne P p.1 p.2) (horc : ∀ p ∈ orce, OrcOne P p.1 p.2) (hcon : ConOk P) (hb : hasBody P f = true) : OrcOne P f (guardO ⟨P, fun f => seek f exte, funPL P (fun f => seek f exte) (fun f => seek f orce) us ps cf d e⟩ n f) := by
  refine ⟨hb, fun args v k hg hk μ cargs w ha hw => ?_⟩
  unfold guardO at hg
  cases hp : args.all plainB with
  | false => rw [hp] at hg; cases hg
  | true =>
    rw [hp, cond_true] at hg
    split at hg
    · rename_i v1 k1 hg1
      cases hv : plainB v1 with
      | false => rw [hv] at hg; cases hg
      | true =>
        rw [hv] at hg
        cases hg
        subst hk
        exact guard_goes (funPL_goes hm hus hps (ext_list hext) (orc_list horc) hcon e) hm hg1 hp hv ha w hw
    · cases hg
end
noncomputable section
open Go Go.RowKit
theorem guard_one {P : Program} {exte orce : List (Nat × Sig)} {us ps : List FuncId} {cf d e n : Nat} {f : FuncId} (hm : P.follows .mixedOrders = true) (hus : us.all (funcOk P) = true) (hps : ps.all (funcOk P) = true)
    (hext : ∀ p ∈ exte, ExtOne P p.1 p.2) (horc : ∀ p ∈ orce, OrcOne P p.1 p.2) (hb : hasBody P f = true) : OrcOne P f (guardO ⟨P, fun f => seek f exte, funPL P (fun f => seek f exte) (fun f => seek f orce) us ps cf d e⟩ n f) :=
  guard_oneF hm hus hps hext horc noCon hb
end
end Ev
namespace Ev
noncomputable section
open Go Go.RowKit
variable [Frn]

end
end Ev
