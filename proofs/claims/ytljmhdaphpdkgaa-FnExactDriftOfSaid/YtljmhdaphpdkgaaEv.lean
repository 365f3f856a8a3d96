/-
  A machine for laws over plain values: an evaluator of the model's code over values whose NaNs are made one ('funD'), and the proof that whatever it answers the code answers too, on every tape, in every order that a region may draw ('fun_goes', 'law_call'). No condition; nothing of one program stands here.
-/
import Derived.Test.YtljmhdaphpdkgaaEa
import Derived.Orders
import Derived.Scope
import Derived.LoopN
import Derived.Laws.Cover2
import Derived.ChangeShapes
import Derived.Laws.Externs
set_option linter.unusedSectionVars false
namespace Ev
open Go Go.RowKit
variable [Frn]

section
variable {E : Env} {t : List (Value × Bool)} {h : Heap} {a : Act} {w : World} {μ : Mu} {B : Nat} {o : Oper}

/-- a value out of a run that may draw once -/
theorem goes_either {P : Program} {x : Value} {s : Sem Value} {ok : Bool} (hh : HeapR μ h w B) (he : execOp a.eval o = do pure (.value (← s)))
    (hr : ∃ v', (s.run P w = .ok v' w ∨ s.run P w = .ok v' { w with drawn := w.drawn + 1 }) ∧ VR μ x v') : OpGoes P o a w μ B h ⟨x, true, .no, ok⟩ := by
  obtain ⟨v', hv, hx⟩ := hr
  rcases hv with hv | hv
  · exact goes_value hh (by rw [he, Sem.run_bind, hv]; rfl) hx
  · exact goes_draw hh (by rw [he, Sem.run_bind, hv]; rfl) hx
theorem goes_run {P : Program} {x : Value} {s : Sem Value} {ok : Bool} (hh : HeapR μ h w B) (he : execOp a.eval o = do pure (.value (← s)))
    (hr : ∃ v', s.run P w = .ok v' w ∧ VR μ x v') : OpGoes P o a w μ B h ⟨x, true, .no, ok⟩ := by
  obtain ⟨v', hv, hx⟩ := hr
  exact goes_either hh he ⟨v', .inl hv, hx⟩

theorem mk_some {v : Option Value} {g : Bool} {r : OpRes} (h : mk v g = some r) : ∃ x, v = some x ∧ r = ⟨x, true, .no, g⟩ := by
  cases v with
  | none => cases h
  | some x => exact ⟨x, rfl, by simpa [mk] using h.symm⟩
theorem mm_args {up : Bool} {t : List (Value × Bool)} {l : List Operand} {r : OpRes} (h : mmOp up (l.map (evl t)) = some r) : ∃ x y v, l = [x, y] ∧ mmD up (evl t x).1 (evl t y).1 = some v ∧ r = ⟨v, true, .no, (evl t x).2 && (evl t y).2⟩ := by
  match l, h with
  | [x, y], h =>
    obtain ⟨v, hv, e⟩ := mk_some h
    exact ⟨x, y, v, rfl, hv, e⟩
  | [], h => cases h
  | [_], h => cases h
  | _ :: _ :: _ :: _, h => cases h


theorem goes_new {P : Program} (hh : HeapR μ h w B) (hB : B ≤ w.heap.size) {nid : Nat} (h1 : nid < h.length) (h2 : h.getD nid none = none) {cs : List Value} {cs' : Array Value} {T : TypeId} {ok : Bool} (hc : VRL μ cs cs'.toList)
    (he : (execOp a.eval o).run P w = .ok (.value (.pointer (some ⟨w.heap.size, 0, none⟩))) (w.alloc (.cells cs' T))) : OpGoes P o a w μ B h ⟨.pointer (some ⟨nid, 0, none⟩), true, .at_ nid cs, ok⟩ := by
  intro K Q hK
  unfold Oper.wp
  rw [he]
  refine hK _ _ (upd μ nid w.heap.size cs.length cs'.size) ⟨hh.new_sub (hh.non nid h2), ⟨fun _ => .ptr _ _ _ upd_self, fun e => (by cases e)⟩, hh.new hB h1 h2 T hc, ?_⟩
  exact (Below.refl B w).alloc hB _

theorem parts_sound {a : Act} (ht : TmpsR μ t a.tmps) (parts : Array (Nat × Operand)) (hg : (parts.toList.all fun p => (evl t p.2).2) = true) :
    PartsR μ (parts.toList.map fun p => (p.1, (evl t p.2).1)) (parts.map fun p => (p.1, a.eval p.2)).toList := by
  rw [Array.toList_map]
  generalize parts.toList = l at *
  induction l with
  | nil => exact ⟨rfl, VRL.nil⟩
  | cons p l ih =>
    simp only [List.all_cons, Bool.and_eq_true] at hg
    obtain ⟨h1, h2⟩ := ih hg.2
    exact ⟨by simp, VRL.cons (evl_sound ht p.2 hg.1) h2⟩

theorem fresh_spec {nid : Nat} (hf : freshB h nid = true) : nid < h.length ∧ h.getD nid none = none := by
  simp only [freshB, Bool.and_eq_true, Option.isNone_iff_eq_none] at hf
  exact ⟨Nat.le_of_ble_eq_true hf.1, hf.2⟩

theorem emptyA_eq {v : Value} (h : emptyA v = true) : v = .agg #[] := by
  unfold emptyA at h
  split at h
  · rename_i cs
    have : cs = #[] := Array.ext' (by simpa using h)
    rw [this]
  · cases h
theorem empty_VR {v : Value} (h : VR μ (.agg #[]) v) : v = .agg #[] := by
  obtain ⟨ys, rfl, hl, _⟩ := h.agg_inv
  have : ys = #[] := Array.ext' (List.length_eq_zero_iff.1 hl.symm)
  rw [this]
theorem mkIface_run {P : Program} {ty : TypeId} {x x' v : Value} (hx : VR μ x x') (h : mkIfaceD P ty x = some v) : ∃ v', (Instr.makeInterface ty x').run P w = .ok v' w ∧ VR μ v v' := by
  unfold mkIfaceD at h
  split at h
  · cases h
  · rename_i d hn hu
    cases he : emptyA x with
    | false => rw [he] at h; cases h
    | true =>
      rw [he] at h
      cases h
      rw [emptyA_eq he] at hx
      rw [empty_VR hx]
      refine ⟨_, ?_, .iface ty⟩
      unfold Instr.makeInterface
      rw [Sem.run_bind, run_underlying hu w, Result.andThen_ok]
      split
      · exact (hn _ rfl).elim
      · rfl
  · cases h
theorem canon_same {x x' : Value} (hc : canonB x = true) (h : VR μ x x') (hi : x = .nilIface ∨ ∃ t y, x = .iface t y) : x' = x := by
  rcases hi with rfl | ⟨t, y, rfl⟩
  · exact h.nilIface_inv
  · obtain ⟨e1, e2⟩ := h.iface_inv
    rw [e1, e2]
theorem asrt_run {P : Program} {xt ty : TypeId} {x x' v : Value} (hx : VR μ x x') (h : asrtD P xt ty x = some v) : ∃ v', (Instr.typeAssert x' xt ty true).run P w = .ok v' w ∧ VR μ v v' := by
  have key : ∀ y, (y = .nilIface ∨ ∃ t z, y = .iface t z) → VR μ y x' → (bif canonB y then match pureS P (Instr.typeAssert y xt ty true) with
      | some (.tuple cs) => bif cs.toList.all canonB then some (.tuple cs) else none
      | _ => none
    else none) = some v → ∃ v', (Instr.typeAssert x' xt ty true).run P w = .ok v' w ∧ VR μ v v' := fun y hy hx h => by
    cases hc : canonB y with
    | false => rw [hc] at h; cases h
    | true =>
      rw [hc, cond_true] at h
      rw [canon_same hc hx hy]
      split at h
      · rename_i cs hp
        cases ha : cs.toList.all canonB with
        | false => rw [ha] at h; cases h
        | true =>
          rw [ha] at h
          cases h
          exact ⟨_, pureS_run hp w, .tuple _ _ rfl (canonL_VRL ha).2⟩
      · cases h
  unfold asrtD at h
  split at h
  · exact key _ (.inl rfl) hx h
  · exact key _ (.inr ⟨_, _, rfl⟩) hx h
  · cases h
theorem invoke_method (v : Value) (name : String) (args : Array Value) : invoke (.fn (.method name) #[]) (#[v] ++ args) = callMethod v name args := by
  have h0 : (#[v] ++ args)[0]? = some v := by
    rw [Array.getElem?_append, if_pos (by simp)]
    rfl
  have h1 : (#[v] ++ args).extract 1 (#[v] ++ args).size = args := by
    apply Array.ext'
    simp [List.extract_eq_take_drop]
  unfold invoke
  simp only [h0, h1]
theorem inv_goes (hE : EnvOk E) (hh : HeapR μ h w B) (hB : B ≤ w.heap.size) {x x' : Value} {name : String} {args cargs : List Value} {g : Bool} {r : OpRes} (hx : g = true → VR μ x x') (hl : args.length = cargs.length)
    (hr : invD E x name args g = some r) (hok : r.ok = true) (hrun : (execOp a.eval o).run E.P w = (callMethod x' name cargs.toArray).run E.P w) : OpGoes E.P o a w μ B h r := by
  unfold invD at hr
  split at hr
  case h_2 => cases hr
  rename_i f rc hm
  cases hc : (emptyA rc && args.isEmpty) with
  | false => rw [hc] at hr; cases hr
  | true =>
    rw [hc, cond_true] at hr
    rw [Bool.and_eq_true] at hc
    have hargs : cargs = [] := by
      have : args = [] := List.isEmpty_iff.1 hc.2
      rw [this] at hl
      exact List.length_eq_zero_iff.1 hl.symm
    split at hr
    · cases hr
    · cases hv : E.call f [.agg #[]] [] with
      | none => rw [hv] at hr; cases hr
      | some p =>
        obtain ⟨v, h', k⟩ := p
        rw [hv] at hr
        dsimp only at hr
        cases hpl : plainB v with
        | false => rw [hpl] at hr; cases hr
        | true =>
          rw [hpl] at hr
          cases hr
          rw [Bool.and_eq_true] at hok
          have hx := hx hok.1
          obtain ⟨t0, y0, rfl⟩ : ∃ t0 y0, x = .iface t0 y0 := by
            unfold methD at hm
            split at hm
            · exact ⟨_, _, rfl⟩
            · cases hm
          obtain ⟨rfl, rfl⟩ := hx.iface_inv
          have hrc := emptyA_eq hc.1
          subst hrc
          have hm : pureS E.P (method (E.P.types.size + Made.depth) t0 (.agg #[]) name) = some (f, .agg #[]) := hm
          have e1 : (execOp a.eval o).run E.P w = .ok (.enter f [.agg #[]].toArray) w := by
            rw [hrun, hargs]
            unfold callMethod
            simp only [Sem.run_bind, run_program, Result.andThen_ok, pureS_run hm w]
            exact hE.enter f _ _ _ hv _ w
          have hcl := hE.call f _ [] v h' k hv hok.2 Mu.nil [.agg #[]] w w.heap.size (VRL.cons (.agg _ _ rfl (by simp)) VRL.nil) (hh.empty hB) (Nat.le_refl _)
          intro K Q hK
          unfold Oper.wp
          rw [e1]
          refine hcl.mono fun e w' hx => ?_
          obtain ⟨v', μ', rfl, _, hvr, _, hbl⟩ := hx
          exact hK v' w' μ ⟨Sub.refl μ, ⟨fun _ => plain_VR hvr hpl, fun e => (by cases e)⟩, hh.keep hB hbl, hbl.mono hB⟩

theorem op_goes (hE : EnvOk E) {draw : Bool} {chk : Nat → Bool} {nid : Nat} (ht : TmpsR μ t a.tmps) (hh : HeapR μ h w B) (hB : B ≤ w.heap.size) {r : OpRes} (hop : opD E draw chk nid t h o.op = some r)
    (hok : r.ok = true) : OpGoes E.P o a w μ B h r := by
  unfold opD at hop
  split at hop
  case h_1 x hx =>
    cases hop
    exact goes_value hh (by simp only [execOp, hx]; rfl) (evl_sound ht x hok)
  case h_2 x hx =>
    cases hop
    exact goes_value hh (by simp only [execOp, hx]; rfl) (evl_sound ht x hok)
  case h_3 c x y hx =>
    split at hop
    case h_2 => cases hop
    rename_i s gc he
    split at hop
    case h_2 => cases hop
    rename_i v k hp
    cases hop
    simp only [Bool.and_eq_true] at hok
    obtain ⟨k1, k2, k3⟩ := hok
    have hc := evl_sound ht c (by rw [he]; exact k1)
    rw [he] at hc
    have hc' := hc.bool_inv
    have hres : VR μ v (if s then a.eval x else a.eval y) := by
      cases s with
      | true =>
        have hv := evl_sound ht x (by simpa using k2)
        generalize (evl t x).1 = vx at *
        generalize (evl t y).1 = vy at *
        cases vx with
        | bool b => cases vy <;> simp only [pickV, Option.some.injEq, Prod.mk.injEq] at hp <;> (obtain ⟨rfl, _⟩ := hp; simpa using hv)
        | _ => cases vy <;> simp only [pickV, Option.some.injEq, Prod.mk.injEq, reduceCtorEq] at hp <;> (obtain ⟨_, rfl⟩ := hp; cases k3)
      | false =>
        have hv := evl_sound ht y (by simpa using k2)
        generalize (evl t x).1 = vx at *
        generalize (evl t y).1 = vy at *
        cases vy with
        | bool b => cases vx <;> simp only [pickV, Option.some.injEq, Prod.mk.injEq] at hp <;> (obtain ⟨rfl, _⟩ := hp; simpa using hv)
        | _ => cases vx <;> simp only [pickV, Option.some.injEq, Prod.mk.injEq, reduceCtorEq] at hp <;> (obtain ⟨_, rfl⟩ := hp; cases k3)
    refine goes_value hh (v := if s then a.eval x else a.eval y) ?_ hres
    simp only [execOp, hx, hc', asBool, Sem.run_bind, Sem.run_pure, Result.andThen_ok]
  case h_4 e hx =>
    split at hop
    case h_2 => cases hop
    rename_i i hi
    split at hop
    case h_2 => cases hop
    rename_i z hz
    cases hc : (freshB h nid && z.cells.toList.all canonB) with
    | false => rw [hc] at hop; cases hop
    | true =>
      rw [hc] at hop
      simp only [cond_true, Option.some.injEq] at hop
      subst hop
      simp only [Bool.and_eq_true] at hc
      obtain ⟨hf, hc⟩ := hc
      obtain ⟨n1, n2⟩ := fresh_spec hf
      exact goes_new hh hB n1 n2 (cs' := z.cells) (T := e) (canonL_VRL hc) (by
        simp only [execOp, hx, Instr.alloc, zeroValue, typeInfo, Sem.run_bind, run_program, Result.andThen_ok, hi, Sem.run_pure, hz, newVar, newRow, run_newObj_alloc])
  case h_5 e x hx =>
    cases hf : freshB h nid with
    | false => rw [hf] at hop; cases hop
    | true =>
    rw [hf] at hop
    simp only [cond_true, Option.some.injEq] at hop
    subst hop
    obtain ⟨n1, n2⟩ := fresh_spec hf
    exact goes_new hh hB n1 n2 (cs' := (a.eval x).cells) (T := e) (evl_sound ht x hok).cells (by
      simp only [execOp, hx, Instr.box, Sem.run_bind, Result.andThen_ok, Sem.run_pure, newVar, newRow, run_newObj_alloc])
  case h_6 ty x hx =>
    obtain ⟨v, k, hv, rfl⟩ := mk2_some hop
    simp only [Bool.and_eq_true] at hok
    rw [hok.2] at hv
    exact goes_run hh (by simp only [execOp, hx]) (load_run hh (evl_sound ht x hok.1) (loadF_D hv))
  case h_7 ty x y hx =>
    split at hop
    case h_2 => cases hop
    rename_i b cs k hs
    cases hop
    simp only [Bool.and_eq_true] at hok
    rw [hok.2] at hs
    obtain ⟨w', hw, hh', hb⟩ := store_run hh (evl_sound ht x hok.1.1) (evl_sound ht y hok.1.2) (storeF_iff.1 hs)
    intro K Q hK
    unfold Oper.wp
    have : (execOp a.eval o).run E.P w = .ok .skip w' := by
      simp only [execOp, hx, Sem.run_bind, hw, Result.andThen_ok, Sem.run_pure]
    rw [this]
    exact hK undef w' μ ⟨Sub.refl μ, SlotR.undef μ, hh', hb⟩
  case h_8 op ty x y yt hx =>
    cases hs : isStrA E.P ty (evl t x).1 with
    | false =>
      rw [hs, cond_false] at hop
      obtain ⟨v, hv, rfl⟩ := mk_some hop
      simp only [Bool.and_eq_true] at hok
      exact goes_either hh (by simp only [execOp, hx]) (bin_run x y (evl_sound ht x hok.1) (evl_sound ht y hok.2) hv)
    | true =>
      rw [hs, cond_true] at hop
      obtain ⟨v, k, hv, rfl⟩ := mk2_some hop
      simp only [Bool.and_eq_true] at hok
      obtain ⟨hok, rfl⟩ := hok
      exact goes_either hh (by simp only [execOp, hx]) (bin_run x y (evl_sound ht x hok.1) (evl_sound ht y hok.2) (binT_D hs hv))
  case h_9 op xt x hx =>
    obtain ⟨v, hv, rfl⟩ := mk_some hop
    exact goes_run hh (by simp only [execOp, hx]) (un_run (evl_sound ht x hok) hv)
  case h_10 s d x hx =>
    split at hop
    case h_2 => cases hop
    rename_i v k hv
    cases hop
    simp only [Bool.and_eq_true] at hok
    exact goes_either hh (by simp only [execOp, hx]) (cv_run (evl_sound ht x hok.1) hv hok.2)
  case h_11 ty x ix hx =>
    obtain ⟨v, k, hv, rfl⟩ := mk2_some hop
    simp only [Bool.and_eq_true] at hok
    rw [hok.2] at hv
    exact goes_run hh (by simp only [execOp, hx]) (idx_run (evl_sound ht x hok.1.1) (evl_sound ht ix hok.1.2) (idxF_D hv))
  case h_12 ty x ix hx =>
    obtain ⟨v, k, hv, rfl⟩ := mk2_some hop
    simp only [Bool.and_eq_true] at hok
    rw [hok.2] at hv
    exact goes_run hh (by simp only [execOp, hx]) (idxAddr_run (evl_sound ht x hok.1.1) (evl_sound ht ix hok.1.2) (idxAddrF_iff.1 hv))
  case h_13 x i hx =>
    split at hop
    case h_2 => cases hop
    rename_i vs he
    obtain ⟨v, hv, rfl⟩ := mk_some hop
    have hx' := evl_sound ht x hok
    rw [he] at hx'
    obtain ⟨ys, hy, hl⟩ := hx'.tuple_inv
    obtain ⟨v', hv', hr⟩ := hl.get hv
    refine goes_run hh (s := Instr.extract (a.eval x) i) (by simp only [execOp, hx]) ⟨v', ?_, hr⟩
    have : ys[i]? = some v' := by simpa using hv'
    simp [Instr.extract, hy, this]
  case h_14 ty x lo hi hx =>
    obtain ⟨v, k, hv, rfl⟩ := mk2_some hop
    simp only [Bool.and_eq_true] at hok
    rw [hok.2] at hv
    have opt : ∀ (y : Option Operand), (y.toList.all fun y => (evl t y).2) = true → ∀ v, (y.map fun y => (evl t y).1) = some v → ∃ v', (y.map a.eval) = some v' ∧ VR μ v v' := fun y hy v hv => by
      cases y with
      | none => cases hv
      | some y =>
        cases hv
        exact ⟨_, rfl, evl_sound ht y (by simpa using hy)⟩
    exact goes_run hh (by simp only [execOp, hx]; rfl) (slice_run (evl_sound ht x hok.1.1.1) (opt lo hok.1.1.2) (opt hi hok.1.2) (fun e => by cases lo <;> simp_all) (fun e => by cases hi <;> simp_all) (sliceF_iff.1 hv))
  case h_15 fn first captured hx =>
    cases hop
    simp only [Bool.and_eq_true] at hok
    refine goes_value hh (v := .func fn (first.map a.eval) (captured.map a.eval)) (by simp only [execOp, hx, Instr.makeFunc]; rfl) ?_
    have h1 := args_sound ht first.toList hok.1
    have h2 := args_sound ht captured.toList hok.2
    exact .func _ _ _ _ _ (by simp) (by simpa using h1.2) (by simp) (by simpa using h2.2)
  case h_16 x hx =>
    obtain ⟨v, hv, rfl⟩ := mk_some hop
    have hr := evl_sound ht x hok
    unfold nilD at hv
    split at hv
    · rename_i p hp
      cases hv
      rw [hp] at hr
      generalize hax : a.eval x = y at *
      cases hr with
      | ptr b o b' hb => exact goes_value hh (by simp only [execOp, hx, hax]; rfl) (.ptr _ _ _ hb)
      | ptrF k o l c b o' hrel => exact goes_value hh (by simp only [execOp, hx, hax]; rfl) (.ptrF _ _ _ _ _ _ hrel)
    · rename_i f fs cs hp
      cases hv
      rw [hp] at hr
      obtain ⟨f', c', e, _, _⟩ := hr.func_inv
      exact goes_value hh (v := a.eval x) (by simp only [execOp, hx, e]; rfl) hr
    · cases hv
  case h_17 ty x f hx =>
    obtain ⟨v, k, hv, rfl⟩ := mk2_some hop
    simp only [Bool.and_eq_true] at hok
    rw [hok.2] at hv
    exact goes_run hh (by simp only [execOp, hx]) (field_run (evl_sound ht x hok.1) (fieldF_D hv))
  case h_18 ty x f hx =>
    obtain ⟨v, hv, rfl⟩ := mk_some hop
    exact goes_run hh (by simp only [execOp, hx]) (fieldAddr_run (evl_sound ht x hok) hv)
  case h_19 ty parts hx =>
    obtain ⟨v, hv, rfl⟩ := mk_some hop
    exact goes_run hh (s := Instr.build ty (parts.map fun p => (p.1, a.eval p.2))) (by simp only [execOp, hx]) (build_run (parts_sound ht parts hok) hv)
  case h_20 ty len parts hx =>
    cases hf : freshB h nid with
    | false => rw [hf] at hop; cases hop
    | true =>
    rw [hf] at hop
    simp only [cond_true] at hop
    split at hop
    case h_2 => cases hop
    rename_i cs hcs
    cases hop
    obtain ⟨n1, n2⟩ := fresh_spec hf
    obtain ⟨cs', T, hrun, hvr⟩ := row_run (w := w) (ps' := parts.map fun p => (p.1, a.eval p.2)) (parts_sound ht parts hok) hcs
    intro K Q hK
    unfold Oper.wp
    have : (execOp a.eval o).run E.P w = .ok (.value (.slice (some ⟨w.heap.size, 0, none⟩) len len)) (w.alloc (.cells cs' T)) := by
      simp only [execOp, hx, Sem.run_bind]
      rw [show (parts.map fun (x : Nat × Operand) => match x with | (i, x) => (i, a.eval x)) = parts.map fun p => (p.1, a.eval p.2) from rfl, hrun]
      rfl
    rw [this]
    refine hK _ _ (upd μ nid w.heap.size cs.length cs'.size) ⟨hh.new_sub (hh.non nid n2), ⟨fun _ => .slice _ _ _ _ _ _ upd_self (CapR.self _ _ _ _ _), fun e => (by cases e)⟩, hh.new hB n1 n2 T hvr, ?_⟩
    exact (Below.refl B w).alloc hB _
  case h_21 c hx =>
    split at hop
    · rename_i b hcal
      cases hap : isApp b with
      | true =>
        rw [hap, cond_true] at hop
        have hb : b = .append := by cases b <;> first | rfl | cases hap
        subst hb
        unfold appE at hop
        split at hop
        case h_2 => cases hop
        rename_i t1 t2 s1 s2 hty hxs
        cases htt : Nat.beq t1 t2 with
        | false => rw [htt] at hop; cases hop
        | true =>
        rw [htt, cond_true] at hop
        have htt := Nat.eq_of_beq_eq_true htt
        subst htt
        cases hl : c.args.toList with
        | nil => rw [hl] at hxs; cases hxs
        | cons x r =>
        cases r with
        | nil => rw [hl] at hxs; cases hxs
        | cons y r =>
        cases r with
        | cons y2 r => rw [hl] at hxs; cases hxs
        | nil =>
        rw [hl] at hxs
        simp only [List.map_cons, List.map_nil, List.cons.injEq, and_true] at hxs
        obtain ⟨rfl, rfl⟩ := hxs
        have e1 : c.argTypes = #[t1, t1] := Array.ext' hty
        have e2 : c.args.map a.eval = #[a.eval x, a.eval y] := by apply Array.ext'; simp [hl]
        cases hF : appF E.P h t1 (evl t x).1 (evl t y).1 with
        | none => rw [hF] at hop; cases hop
        | some q =>
        obtain ⟨v, kill, row, k⟩ := q
        rw [hF] at hop
        dsimp only at hop
        have fin : r = ⟨v, true, .all (killH h kill ++ [some row]), ((evl t x).2 && (evl t y).2) && k⟩ := by
          cases draw with
          | false => rw [cond_false] at hop; cases hop; rfl
          | true =>
            rw [cond_true] at hop
            cases hrd : E.rd with
            | false => rw [hrd] at hop; cases hop
            | true =>
              rw [hrd, cond_true] at hop
              cases kill with
              | none => cases hop; rfl
              | some b => cases hop
        subst fin
        simp only [Bool.and_eq_true] at hok
        obtain ⟨⟨k1, k2⟩, rfl⟩ := hok
        obtain ⟨v', w', μ', hrun, g1, g2, g3, g4⟩ := app_run (ty := o.type) hh hB (evl_sound ht x k1) (evl_sound ht y k2) hF
        intro K Q hK
        unfold Oper.wp
        have : (execOp a.eval o).run E.P w = .ok (.value v') w' := by
          simp only [execOp, hx, resolve, hcal, e1, e2, invoke, builtin, Sem.run_bind, Sem.run_pure, Result.andThen_ok, hrun]
        rw [this]
        exact hK v' w' μ' ⟨g1, ⟨fun _ => g2, fun e => (by cases e)⟩, g3, g4⟩
      | false =>
      rw [hap, cond_false] at hop
      unfold biD at hop
      split at hop
      case h_4 => cases hop
      case h_2 =>
        obtain ⟨x, y, v, hl, hv, rfl⟩ := mm_args hop
        have e2 : c.args.map a.eval = #[a.eval x, a.eval y] := by apply Array.ext'; simp [hl]
        obtain ⟨v', hr, hvr⟩ := mm_run (P := E.P) (w := w) (t := c.argTypes) (rt := o.type) (evl_sound ht x (by simp only [Bool.and_eq_true] at hok; exact hok.1)) (evl_sound ht y (by simp only [Bool.and_eq_true] at hok; exact hok.2)) hv
        refine goes_either hh (s := Builtin.min_ c.argTypes o.type #[a.eval x, a.eval y]) ?_ ⟨v', hr, hvr⟩
        simp only [execOp, hx, resolve, hcal, e2]
        rfl
      case h_3 =>
        obtain ⟨x, y, v, hl, hv, rfl⟩ := mm_args hop
        have e2 : c.args.map a.eval = #[a.eval x, a.eval y] := by apply Array.ext'; simp [hl]
        obtain ⟨v', hr, hvr⟩ := mm_run (P := E.P) (w := w) (t := c.argTypes) (rt := o.type) (evl_sound ht x (by simp only [Bool.and_eq_true] at hok; exact hok.1)) (evl_sound ht y (by simp only [Bool.and_eq_true] at hok; exact hok.2)) hv
        refine goes_either hh (s := Builtin.max_ c.argTypes o.type #[a.eval x, a.eval y]) ?_ ⟨v', hr, hvr⟩
        simp only [execOp, hx, resolve, hcal, e2]
        rfl
      unfold lenOp at hop
      split at hop
      · rename_i ty tys hty
        split at hop
        · rename_i p hp
          obtain ⟨v, hv, rfl⟩ := mk_some hop
          cases hl : c.args.toList with
          | nil => rw [hl] at hp; cases hp
          | cons x r =>
            rw [hl] at hp
            cases r with
            | nil =>
              simp only [List.map_cons, List.map_nil, List.cons.injEq, and_true] at hp
              subst hp
              have e1 : c.argTypes[0]? = some ty := by rw [← Array.getElem?_toList, hty]; rfl
              have e2 : c.args.map a.eval = #[a.eval x] := by apply Array.ext'; simp [hl]
              obtain ⟨v', hr, hvr⟩ := len_run (P := E.P) (w := w) (rt := o.type) e1 (evl_sound ht x hok) hv
              refine goes_run hh (s := Builtin.len_ c.argTypes o.type #[a.eval x]) ?_ ⟨v', hr, hvr⟩
              simp only [execOp, hx, resolve, hcal, e2]
              rfl
            | cons y r => cases hp
        · cases hop
      · cases hop
    · rename_i f hf
      refine call_goes hE hh hB (f' := a.eval f) (cargs := c.args.toList.map a.eval) (fun hg => evl_sound ht f ?_) (fun hg => args_sound ht _ ?_) hop hok ?_
      · simp only [Bool.and_eq_true] at hg; exact hg.1
      · simp only [Bool.and_eq_true] at hg; exact hg.2
      · simp only [execOp, hx, resolve, hf, Sem.run_bind]
        rw [show c.args.map a.eval = (c.args.toList.map a.eval).toArray by apply Array.ext'; simp]
    · rename_i x name hcal
      refine inv_goes hE hh hB (x' := a.eval x) (cargs := c.args.toList.map a.eval) (fun hg => evl_sound ht x hg) (by simp) hop hok ?_
      simp only [execOp, hx, resolve, hcal, Sem.run_bind, Sem.run_pure, Result.andThen_ok, invoke_method]
      rw [show c.args.map a.eval = (c.args.toList.map a.eval).toArray by apply Array.ext'; simp]
  case h_22 ty x hx =>
    obtain ⟨v, hv, rfl⟩ := mk_some hop
    exact goes_run hh (by simp only [execOp, hx]) (mkIface_run (evl_sound ht x hok) hv)
  case h_23 x xt ty hx =>
    obtain ⟨v, hv, rfl⟩ := mk_some hop
    exact goes_run hh (by simp only [execOp, hx]) (asrt_run (evl_sound ht x hok) hv)
  case h_24 ty l c hx =>
    cases hf : freshB h nid with
    | false => rw [hf] at hop; cases hop
    | true =>
    rw [hf] at hop
    simp only [cond_true] at hop
    split at hop
    case h_2 => cases hop
    rename_i n cs k hcs
    cases hop
    simp only [Bool.and_eq_true] at hok
    rw [hok.2] at hcs
    obtain ⟨n1, n2⟩ := fresh_spec hf
    obtain ⟨cs', T, hrun, hvr⟩ := make_run (w := w) (evl_sound ht l hok.1.1) (evl_sound ht c hok.1.2) (makeF_iff.1 hcs)
    intro K Q hK
    unfold Oper.wp
    have : (execOp a.eval o).run E.P w = .ok (.value (.slice (some ⟨w.heap.size, 0, none⟩) n n)) (w.alloc (.cells cs' T)) := by
      simp only [execOp, hx, Sem.run_bind, hrun]
      rfl
    rw [this]
    refine hK _ _ (upd μ nid w.heap.size cs.length cs'.size) ⟨hh.new_sub (hh.non nid n2), ⟨fun _ => .slice _ _ _ _ _ _ upd_self (CapR.self _ _ _ _ _), fun e => (by cases e)⟩, hh.new hB n1 n2 T hvr, ?_⟩
    exact (Below.refl B w).alloc hB _
  case h_25 => cases hop
end
end Ev
namespace Ev
open Go Go.RowKit
variable [Frn]

structure SimR (D : List Deferred) (μ0 μ : Mu) (B : Nat) (w0 : World) (s : St) (a : Act) (w : World) : Prop where
  tmps : TmpsR μ s.tmps a.tmps
  heap : HeapR μ s.heap w B
  below : Below B w0 w
  room : B ≤ w.heap.size
  defers : a.defers = D
  sub : Sub μ0 μ
def Sim (D : List Deferred) (μ0 : Mu) (B : Nat) (w0 : World) (s : St) (a : Act) (w : World) : Prop := ∃ μ, SimR D μ0 μ B w0 s a w

theorem put_defers (a : Act) (d : Option Tmp) (v : Value) : (a.put d v).defers = a.defers := by cases d <;> rfl

theorem guard_sound {μ : Mu} {t : List (Value × Bool)} {a : Act} {ops : Array Oper} (ht : TmpsR μ t a.tmps) (j : Nat) (want : Bool) :
    (yielded ops a.tmps j == some want) = guardD ops.toList t (some (j, want)) := by
  unfold yielded guardD
  simp only [Array.getElem?_toList]
  cases hj : ops[j]? with
  | none => rfl
  | some oj =>
    simp only [Option.bind_some]
    cases hd : oj.dst with
    | none => rfl
    | some d =>
      simp only [Option.bind_some]
      have hs := ht.getD d
      have he : a.tmps.getD d undef = (a.tmps[d]?).getD undef := by simp [Array.getD_eq_getD_getElem?]
      rw [he] at hs
      generalize t.getD d (undef, false) = p at *
      obtain ⟨v, g⟩ := p
      cases g with
      | false =>
        have hu := hs.2 rfl
        cases hc : a.tmps[d]? with
        | none => cases v <;> simp
        | some c =>
          rw [hc] at hu
          simp only [Option.getD_some] at hu
          subst hu
          cases v <;> simp [undef]
      | true =>
        have hv := hs.1 rfl
        cases hc : a.tmps[d]? with
        | none =>
          rw [hc] at hv
          simp only [Option.getD_none, undef] at hv
          cases hv with
          | junk _ h => exact h.elim
          | _ => rfl
        | some c =>
          rw [hc] at hv
          simp only [Option.getD_some] at hv
          cases hv with
          | junk _ h => cases c <;> first | exact h.elim | simp
          | _ => simp

theorem step_goes {E : Env} {D : List Deferred} {μ0 : Mu} (hE : EnvOk E) {draw : Bool} {chk : Nat → Bool} {ops : Array Oper} {nid : Nat} {o : Oper} {s s' : St} {μ : Mu} {B : Nat} {w0 w : World} {a : Act}
    (hst : stepD E draw chk ops.toList nid o s = some s') (hok : s'.ok = true) (hs : SimR D μ0 μ B w0 s a w) (K : Act → World → Prop) (Q : Exit → Act → World → Prop) (hK : ∀ a' w', Sim D μ0 B w0 s' a' w' → K a' w') :
    if Region.wanted o (yielded ops a.tmps) = true then o.wp E.P a w K Q else K (a.put o.dst undef) w := by
  unfold stepD at hst
  cases hg : o.guard with
  | none =>
    rw [hg] at hst
    simp only at hst
    rw [if_pos (by simp [Region.wanted, hg])]
    cases hop : opD E draw chk nid s.tmps s.heap o.op with
    | none => rw [hop] at hst; cases hst
    | some r =>
      rw [hop] at hst
      simp only [Option.some.injEq] at hst
      subst hst
      simp only [Bool.and_eq_true] at hok
      refine op_goes hE hs.tmps hs.heap hs.room hop hok.1 K Q fun v w' μ' hp => hK _ _ ⟨μ', ?_, hp.heap, hs.below.trans hp.below, Nat.le_trans hs.room hp.below.size, ?_, hs.sub.trans hp.sub⟩
      · exact (hs.tmps.mono hp.sub).put o.dst hp.val
      · rw [put_defers]; exact hs.defers
  | some gd =>
    obtain ⟨j, want⟩ := gd
    rw [hg] at hst
    simp only at hst
    have hw : Region.wanted o (yielded ops a.tmps) = guardD ops.toList s.tmps (some (j, want)) := by
      simp only [Region.wanted, hg]
      exact guard_sound hs.tmps j want
    rw [hw]
    cases hγ : guardD ops.toList s.tmps (some (j, want)) with
    | false =>
      rw [hγ] at hst
      simp only [Bool.false_eq_true, if_false]
      split at hst
      · simp only [Option.some.injEq] at hst
        subst hst
        refine hK _ _ ⟨μ, hs.tmps.put o.dst ⟨fun e => (by cases e), fun _ => rfl⟩, hs.heap, hs.below, hs.room, ?_, hs.sub⟩
        rw [put_defers]; exact hs.defers
      · simp only [Option.some.injEq] at hst
        subst hst
        refine hK _ _ ⟨μ, hs.tmps.put o.dst ⟨fun e => (by cases e), fun _ => rfl⟩, hs.heap, hs.below, hs.room, ?_, hs.sub⟩
        rw [put_defers]; exact hs.defers
      · simp only [Option.some.injEq] at hst
        subst hst
        refine hK _ _ ⟨μ, hs.tmps.put o.dst (SlotR.undef μ), hs.heap, hs.below, hs.room, ?_, hs.sub⟩
        rw [put_defers]; exact hs.defers
    | true =>
      rw [hγ] at hst
      simp only [if_true]
      split at hst
      · rename_i v g k hop
        simp only [Option.some.injEq] at hst
        subst hst
        simp only [Bool.not_true, Bool.or_false, Bool.and_eq_true] at hok
        refine op_goes hE hs.tmps hs.heap hs.room hop hok.1 K Q fun v w' μ' hp => hK _ _ ⟨μ', ?_, hp.heap, hs.below.trans hp.below, Nat.le_trans hs.room hp.below.size, ?_, hs.sub.trans hp.sub⟩
        · exact (hs.tmps.mono hp.sub).put o.dst (by simpa using hp.val)
        · rw [put_defers]; exact hs.defers
      · rename_i v g h' k hop
        simp only [Option.some.injEq] at hst
        subst hst
        simp only [Bool.not_true, Bool.or_false, Bool.and_eq_true] at hok
        refine op_goes hE hs.tmps hs.heap hs.room hop hok.1 K Q fun v w' μ' hp => hK _ _ ⟨μ', ?_, hp.heap, hs.below.trans hp.below, Nat.le_trans hs.room hp.below.size, ?_, hs.sub.trans hp.sub⟩
        · exact (hs.tmps.mono hp.sub).put o.dst (by simpa using hp.val)
        · rw [put_defers]; exact hs.defers
      · simp only [Option.some.injEq] at hst
        subst hst
        simp at hok

/-- the order is the text's -/
theorem run_seq {E : Env} {D : List Deferred} {μ0 : Mu} (hE : EnvOk E) {draw : Bool} {ops : Array Oper} {ms : List Nat} {lo : Nat} {B : Nat} {w0 : World} {Q : Exit → Act → World → Prop} {s' : St} (hQ : ∀ a' w', Sim D μ0 B w0 s' a' w' → Q .normal a' w') (hok : s'.ok = true)
    (hmono : ∀ i r s, runD E draw ops.toList ms lo i r s = some s' → s.ok = true) :
    ∀ (r : List Oper) (i : Nat) (s : St) (a : Act) (w : World), ops.toList.drop i = r → runD E draw ops.toList ms lo i r s = some s' → Sim D μ0 B w0 s a w → wpOps E.P ops Q (List.range' i r.length) a w := by
  intro r
  induction r with
  | nil =>
    intro i s a w _ hr hs
    simp only [runD, Option.some.injEq] at hr
    subst hr
    exact hQ a w hs
  | cons o r ih =>
    intro i s a w hd hr ⟨μ, hs⟩
    simp only [runD] at hr
    cases hst : stepD E draw (chkD draw ms lo i) ops.toList (lo + i) o s with
    | none => rw [hst] at hr; cases hr
    | some s1 =>
      rw [hst] at hr
      simp only at hr
      have ho : ops[i]? = some o := by
        have : (ops.toList.drop i)[0]? = some o := by rw [hd]; rfl
        rw [List.getElem?_drop] at this
        simpa using this
      have hd' : ops.toList.drop (i + 1) = r := by
        have := congrArg (List.drop 1) hd
        rw [List.drop_drop] at this
        simpa using this
      simp only [List.length_cons, List.range'_succ]
      rw [wpOps_cons]
      unfold wpOp
      rw [ho]
      have hgo := step_goes hE hst (hmono _ _ _ hr) hs (wpOps E.P ops Q (List.range' (i + 1) r.length)) Q (fun a' w' hs' => ih (i + 1) s1 a' w' hd' hr hs')
      show if Region.wanted o (yielded ops a.tmps) = true then _ else _
      split
      · rename_i hw; rw [if_pos hw] at hgo; exact .inl hgo
      · rename_i hw; rw [if_neg hw] at hgo; exact hgo

theorem step_ok {E : Env} {draw : Bool} {chk : Nat → Bool} {ops : List Oper} {nid : Nat} {o : Oper} {s s' : St} (h : stepD E draw chk ops nid o s = some s') (hok : s'.ok = true) : s.ok = true := by
  unfold stepD at h
  split at h
  · split at h
    · simp only [Option.some.injEq] at h; subst h
      simp only [Bool.and_eq_true] at hok; exact hok.2
    · cases h
  · split at h
    · simp only [Option.some.injEq] at h; subst h
      simp only [Bool.and_eq_true] at hok; exact hok.2
    · simp only [Option.some.injEq] at h; subst h
      simp only [Bool.and_eq_true] at hok; exact hok.2
    · simp only [Option.some.injEq] at h; subst h
      simp only [Bool.and_eq_true] at hok; exact hok.2
theorem run_ok {E : Env} {draw : Bool} {ops : List Oper} {ms : List Nat} {lo : Nat} : ∀ (r : List Oper) (i : Nat) (s s' : St), runD E draw ops ms lo i r s = some s' → s'.ok = true → s.ok = true := by
  intro r
  induction r with
  | nil => intro i s s' h hok; simp only [runD, Option.some.injEq] at h; subst h; exact hok
  | cons o r ih =>
    intro i s s' h hok
    simp only [runD] at h
    cases hst : stepD E draw (chkD draw ms lo i) ops (lo + i) o s with
    | none => rw [hst] at h; cases h
    | some s1 =>
      rw [hst] at h
      exact step_ok hst (ih _ _ _ h hok)
end Ev
namespace Ev
open Go Go.RowKit
variable [Frn]

/-! ### What an operation looks at -/
theorem getD_set_ne {α : Type} {l : List α} {i j : Nat} (h : i ≠ j) (x d : α) : (l.set i x).getD j d = l.getD j d := by
  simp [List.getD, h]
theorem putT_getD {t : List (Value × Bool)} {d : Option Tmp} {p : Value × Bool} {i : Nat} (h : ∀ e, d = some e → e ≠ i) : (putT t d p).getD i (undef, false) = t.getD i (undef, false) := by
  cases d with
  | none => rfl
  | some d => exact getD_set_ne (h d rfl) _ _

def LooksSame (t t' : List (Value × Bool)) (l : List Tmp) : Prop := ∀ i ∈ l, t.getD i (undef, false) = t'.getD i (undef, false)
def opTmps (o : Op) : List Tmp := o.operands.toList.filterMap fun | .tmp t => some t | _ => none

theorem evl_same {t t' : List (Value × Bool)} {x : Operand} (h : ∀ i, x = .tmp i → t.getD i (undef, false) = t'.getD i (undef, false)) : evl t x = evl t' x := by
  cases x with
  | tmp i => exact h i rfl
  | _ => rfl

theorem mem_opTmps {o : Op} {i : Nat} (h : Operand.tmp i ∈ o.operands.toList) : i ∈ opTmps o :=
  List.mem_filterMap.2 ⟨.tmp i, h, rfl⟩

structure HeapSame (rd : Bool) (chk : Nat → Bool) (nid : Nat) (o : Op) (h h' : Heap) : Prop where
  all : rd = true → isCallV o = true → h = h'
  mem : isMem o = true → ∀ b, chk b = true → h.getD b none = h'.getD b none
  fresh : isNew o = true → freshB h nid = freshB h' nid

theorem loadF_same {P : Program} {chk : Nat → Bool} {h h' : Heap} {t : TypeId} {x : Value} (hm : ∀ b, chk b = true → h.getD b none = h'.getD b none) : loadF P chk h t x = loadF P chk h' t x := by
  unfold loadF
  split
  · rename_i b o
    cases hc : chk b with
    | false => rfl
    | true => simp only [cond_true, hm b hc]
  · rfl
  · rfl
theorem storeF_same {P : Program} {chk : Nat → Bool} {h h' : Heap} {t : TypeId} {x y : Value} (hm : ∀ b, chk b = true → h.getD b none = h'.getD b none) : storeF P chk h t x y = storeF P chk h' t x y := by
  unfold storeF
  split
  · rename_i b o
    cases hc : chk b with
    | false => rfl
    | true => simp only [cond_true, hm b hc]
  · rfl
theorem callD_same {E : Env} {h h' : Heap} {f : Value} {args : List Value} {g : Bool} (hr : E.rd = true → h = h') : callD E true h f args g = callD E true h' f args g := by
  cases hd : E.rd with
  | false =>
    have hn : ∀ h id as, callH E true h id as g = none := fun h id as => by
      unfold callH
      cases E.call id as h with
      | none => rfl
      | some p => obtain ⟨v, h', k⟩ := p; simp only [hd]; rfl
    unfold callD
    simp only [hn]
  | true => rw [hr hd]

theorem appE_same {E : Env} {h h' : Heap} {tys : List TypeId} {xs : List (Value × Bool)} (hr : E.rd = true → h = h') : appE E true h tys xs = appE E true h' tys xs := by
  cases hd : E.rd with
  | true => rw [hr hd]
  | false =>
    have key : ∀ h, appE E true h tys xs = none := fun h => by
      unfold appE
      split
      · rename_i t t2 s x
        cases Nat.beq t t2 with
        | false => rfl
        | true =>
          rw [cond_true, hd]
          cases appF E.P h t s.1 x.1 <;> rfl
      · rfl
    rw [key, key]
theorem all_congr {α : Type} {l : List α} {f g : α → Bool} (h : ∀ x ∈ l, f x = g x) : l.all f = l.all g := by
  rw [Bool.eq_iff_iff, List.all_eq_true, List.all_eq_true]
  exact ⟨fun hA x hx => by rw [← h x hx]; exact hA x hx, fun hA x hx => by rw [h x hx]; exact hA x hx⟩
theorem map_evl {t t' : List (Value × Bool)} {l : List Operand} (h : ∀ x ∈ l, evl t x = evl t' x) : (l.map fun x => (evl t x).1) = l.map fun x => (evl t' x).1 := List.map_congr_left fun x hx => by rw [h x hx]
theorem all_evl {t t' : List (Value × Bool)} {l : List Operand} (h : ∀ x ∈ l, evl t x = evl t' x) : (l.all fun x => (evl t x).2) = l.all fun x => (evl t' x).2 := all_congr fun x hx => by rw [h x hx]

theorem opD_same {E : Env} {chk : Nat → Bool} {nid : Nat} {t t' : List (Value × Bool)} {h h' : Heap} {o : Op} (ht : LooksSame t t' (opTmps o)) (hh : HeapSame E.rd chk nid o h h') :
    opD E true chk nid t h o = opD E true chk nid t' h' o := by
  have ev : ∀ x ∈ o.operands.toList, evl t x = evl t' x := fun x hx => evl_same fun i e => ht i (mem_opTmps (e ▸ hx))
  cases o with
  | move x => simp only [opD, ev x (by simp [Op.operands])]
  | assign x => simp only [opD, ev x (by simp [Op.operands])]
  | pick c a b => simp only [opD, ev c (by simp [Op.operands]), ev a (by simp [Op.operands]), ev b (by simp [Op.operands])]
  | alloc e => simp only [opD, hh.fresh rfl]
  | box e x => simp only [opD, hh.fresh rfl, ev x (by simp [Op.operands])]
  | load ty x => simp only [opD, ev x (by simp [Op.operands]), loadF_same (hh.mem rfl)]
  | store ty x y => simp only [opD, ev x (by simp [Op.operands]), ev y (by simp [Op.operands]), storeF_same (hh.mem rfl)]
  | binOp op ty x y yt => simp only [opD, ev x (by simp [Op.operands]), ev y (by simp [Op.operands])]
  | unOp op ty x => simp only [opD, ev x (by simp [Op.operands])]
  | convert s d x => simp only [opD, ev x (by simp [Op.operands])]
  | index ty x ix => simp only [opD, ev x (by simp [Op.operands]), ev ix (by simp [Op.operands])]
  | indexAddr ty x ix => simp only [opD, ev x (by simp [Op.operands]), ev ix (by simp [Op.operands])]
  | extract x i => simp only [opD, ev x (by simp [Op.operands])]
  | slice ty x lo hi mx =>
    cases mx with
    | some m => rfl
    | none =>
      have e1 : evl t x = evl t' x := ev x (by simp [Op.operands])
      have e2 : ∀ y, lo = some y → evl t y = evl t' y := fun y hy => ev y (by simp [Op.operands, hy])
      have e3 : ∀ y, hi = some y → evl t y = evl t' y := fun y hy => ev y (by simp [Op.operands, hy])
      cases lo <;> cases hi <;> simp [opD, e1, e2, e3]
  | makeFunc fn first captured =>
    have e1 : ∀ x ∈ first.toList, evl t x = evl t' x := fun x hx => ev x (by simp [Op.operands]; exact .inl (by simpa using hx))
    have e2 : ∀ x ∈ captured.toList, evl t x = evl t' x := fun x hx => ev x (by simp [Op.operands]; exact .inr (by simpa using hx))
    simp only [opD, map_evl e1, map_evl e2, all_evl e1, all_evl e2]
  | nilCheck x => simp only [opD, ev x (by simp [Op.operands])]
  | field ty x f => simp only [opD, ev x (by simp [Op.operands])]
  | fieldAddr ty x f => simp only [opD, ev x (by simp [Op.operands])]
  | build ty parts =>
    have e1 : ∀ p ∈ parts.toList, evl t p.2 = evl t' p.2 := fun p hp => ev p.2 (by simp only [Op.operands]; exact List.mem_map_of_mem hp)
    have e2 : (parts.toList.map fun p => (p.1, (evl t p.2).1)) = parts.toList.map fun p => (p.1, (evl t' p.2).1) := List.map_congr_left fun p hp => by rw [e1 p hp]
    have e3 : (parts.toList.all fun p => (evl t p.2).2) = parts.toList.all fun p => (evl t' p.2).2 := all_congr fun p hp => by rw [e1 p hp]
    simp only [opD, e2, e3]
  | buildSlice ty len parts =>
    have e1 : ∀ p ∈ parts.toList, evl t p.2 = evl t' p.2 := fun p hp => ev p.2 (by simp only [Op.operands]; exact List.mem_map_of_mem hp)
    have e2 : (parts.toList.map fun p => (p.1, (evl t p.2).1)) = parts.toList.map fun p => (p.1, (evl t' p.2).1) := List.map_congr_left fun p hp => by rw [e1 p hp]
    have e3 : (parts.toList.all fun p => (evl t p.2).2) = parts.toList.all fun p => (evl t' p.2).2 := all_congr fun p hp => by rw [e1 p hp]
    simp only [opD, e2, e3, hh.fresh rfl]
  | makeSlice ty l c => simp only [opD, ev l (by simp [Op.operands]), ev c (by simp [Op.operands]), hh.fresh rfl]
  | call c =>
    simp only [opD]
    cases hc : c.callee with
    | builtin b =>
      have e2 : ∀ x ∈ c.args.toList, evl t x = evl t' x := fun x hx => ev x (by simp [Op.operands, Call.operands, hc]; exact (by simpa using hx))
      have e3 : c.args.toList.map (evl t) = c.args.toList.map (evl t') := List.map_congr_left e2
      simp only [e3]
      cases isApp b with
      | false => rfl
      | true => rw [cond_true, cond_true]; exact appE_same fun hd => hh.all hd rfl
    | value f =>
      have e1 : evl t f = evl t' f := ev f (by simp [Op.operands, Call.operands, hc])
      have e2 : ∀ x ∈ c.args.toList, evl t x = evl t' x := fun x hx => ev x (by simp [Op.operands, Call.operands, hc]; exact .inr (by simpa using hx))
      simp only [e1, map_evl e2, all_evl e2]
      exact callD_same fun hd => hh.all hd rfl
    | invoke x name =>
      have e1 : evl t x = evl t' x := ev x (by simp [Op.operands, Call.operands, hc])
      have e2 : ∀ x ∈ c.args.toList, evl t x = evl t' x := fun x hx => ev x (by simp [Op.operands, Call.operands, hc]; exact .inr (by simpa using hx))
      simp only [e1, map_evl e2]
  | makeInterface ty x => simp only [opD, ev x (by simp [Op.operands])]
  | typeAssert x xt ty ok =>
    cases ok with
    | true => simp only [opD, ev x (by simp [Op.operands])]
    | false => rfl
  | _ => rfl

theorem invD_w {E : Env} {x : Value} {name : String} {args : List Value} {g : Bool} {r : OpRes} (h : invD E x name args g = some r) : r.w = .no := by
  unfold invD at h
  split at h
  · rename_i f rc _
    cases hc : (emptyA rc && args.isEmpty) with
    | false => rw [hc] at h; cases h
    | true =>
      rw [hc, cond_true] at h
      split at h
      · cases h
      · split at h
        · rename_i v _ k _
          cases hp : plainB v with
          | false => rw [hp] at h; cases h
          | true => rw [hp] at h; cases h; rfl
        · cases h
  · cases h
theorem callH_w {E : Env} {h : Heap} {id : FuncId} {as : List Value} {g : Bool} {r : OpRes} (hr : callH E true h id as g = some r) : r.w = .no ∨ (E.rd = true ∧ ∃ h', h'.take h.length = h ∧ r.w = .all h') := by
  unfold callH at hr
  split at hr
  · rename_i v h' k _
    rw [cond_true] at hr
    cases hc : E.rd with
    | false => rw [hc] at hr; cases hr
    | true =>
      rw [hc, cond_true, Option.some.injEq] at hr
      subst hr
      cases hp : plainB v with
      | true => exact .inl rfl
      | false => exact .inr ⟨rfl, _, more_take, rfl⟩
  · cases hr
/-- what it writes -/
theorem opD_w {E : Env} {chk : Nat → Bool} {nid : Nat} {t : List (Value × Bool)} {h : Heap} {o : Op} {r : OpRes} (hop : opD E true chk nid t h o = some r) :
    r.w = .no ∨ (isNew o = true ∧ ∃ cs, r.w = .at_ nid cs) ∨ (isSt o = true ∧ ∃ b cs, chk b = true ∧ r.w = .at_ b cs) ∨ (isCallV o = true ∧ E.rd = true ∧ ∃ h', h'.take h.length = h ∧ r.w = .all h') := by
  cases o with
  | alloc e =>
    right; left
    refine ⟨rfl, ?_⟩
    simp only [opD] at hop
    split at hop
    · split at hop
      · rename_i z _
        cases hc : (freshB h nid && z.cells.toList.all canonB) with
        | false => rw [hc] at hop; cases hop
        | true => rw [hc] at hop; simp only [cond_true, Option.some.injEq] at hop; subst hop; exact ⟨_, rfl⟩
      · cases hop
    · cases hop
  | box e x =>
    right; left
    refine ⟨rfl, ?_⟩
    simp only [opD] at hop
    cases hc : freshB h nid with
    | false => rw [hc] at hop; cases hop
    | true => rw [hc] at hop; simp only [cond_true, Option.some.injEq] at hop; subst hop; exact ⟨_, rfl⟩
  | store ty x y =>
    right; right; left
    refine ⟨rfl, ?_⟩
    simp only [opD] at hop
    split at hop
    · rename_i b cs k hs
      cases hop
      refine ⟨b, cs, ?_, rfl⟩
      unfold storeF at hs
      split at hs
      · rename_i b0 o0 _
        cases hc : chk b0 with
        | false => rw [hc] at hs; cases hs
        | true =>
          rw [hc] at hs
          simp only [cond_true] at hs
          split at hs
          · split at hs
            · simp only [Option.some.injEq, Prod.mk.injEq] at hs
              rw [← hs.1]; exact hc
            · cases hs
          · cases hs
      · cases hs
    · cases hop
  | buildSlice ty len parts =>
    right; left
    refine ⟨rfl, ?_⟩
    simp only [opD] at hop
    cases hc : freshB h nid with
    | false => rw [hc] at hop; cases hop
    | true =>
      rw [hc] at hop
      simp only [cond_true] at hop
      split at hop
      · cases hop; exact ⟨_, rfl⟩
      · cases hop
  | makeSlice ty l c =>
    right; left
    refine ⟨rfl, ?_⟩
    simp only [opD] at hop
    cases hc : freshB h nid with
    | false => rw [hc] at hop; cases hop
    | true =>
      rw [hc] at hop
      simp only [cond_true] at hop
      split at hop
      · cases hop; exact ⟨_, rfl⟩
      · cases hop
  | slice ty x lo hi mx =>
    cases mx with
    | some m => cases hop
    | none => obtain ⟨_, _, _, rfl⟩ := mk2_some hop; exact .inl rfl
  | makeFunc fn first captured => cases hop; exact .inl rfl
  | nilCheck x => obtain ⟨_, _, rfl⟩ := mk_some hop; exact .inl rfl
  | field ty x f => obtain ⟨_, _, _, rfl⟩ := mk2_some hop; exact .inl rfl
  | fieldAddr ty x f => obtain ⟨_, _, rfl⟩ := mk_some hop; exact .inl rfl
  | build ty parts => obtain ⟨_, _, rfl⟩ := mk_some hop; exact .inl rfl
  | call c =>
    simp only [opD] at hop
    split at hop
    · rename_i b _
      cases hap : isApp b with
      | true =>
        rw [hap, cond_true] at hop
        refine .inr (.inr (.inr ⟨rfl, ?_⟩))
        unfold appE at hop
        split at hop
        case h_2 => cases hop
        rename_i t1 t2 s1 s2 _ _
        cases htt : Nat.beq t1 t2 with
        | false => rw [htt] at hop; cases hop
        | true =>
        rw [htt, cond_true] at hop
        cases hF : appF E.P h t1 s1.1 s2.1 with
        | none => rw [hF] at hop; cases hop
        | some q =>
        obtain ⟨v, kill, row, k⟩ := q
        rw [hF] at hop
        dsimp only at hop
        rw [cond_true] at hop
        cases hrd : E.rd with
        | false => rw [hrd] at hop; cases hop
        | true =>
          rw [hrd, cond_true] at hop
          cases kill with
          | none => cases hop; exact ⟨rfl, _, List.take_left, rfl⟩
          | some b => cases hop
      | false =>
      rw [hap, cond_false] at hop
      left
      unfold biD at hop
      split at hop
      · unfold lenOp at hop
        split at hop
        · split at hop
          · obtain ⟨_, _, rfl⟩ := mk_some hop; rfl
          · cases hop
        · cases hop
      · obtain ⟨_, _, _, _, _, rfl⟩ := mm_args hop; rfl
      · obtain ⟨_, _, _, _, _, rfl⟩ := mm_args hop; rfl
      · cases hop
    · unfold callD at hop
      have fin : ∀ {id as g r}, callH E true h id as g = some r → r.w = .no ∨ (isNew (.call c) = true ∧ ∃ cs, r.w = .at_ nid cs) ∨ (isSt (.call c) = true ∧ ∃ b cs, chk b = true ∧ r.w = .at_ b cs) ∨ (isCallV (.call c) = true ∧ E.rd = true ∧ ∃ h', h'.take h.length = h ∧ r.w = .all h') := fun hr => by
        rcases callH_w hr with h1 | ⟨h1, h2⟩
        · exact .inl h1
        · exact .inr (.inr (.inr ⟨rfl, h1, h2⟩))
      split at hop
      · rename_i id first cap _
        split at hop
        · split at hop
          · cases hop; exact .inl rfl
          · cases hop
        · generalize (first.toList ++ (c.args.toList.map fun x => (evl t x).1) ++ cap.toList) = as at hop
          cases hp : as.all plainB with
          | false =>
            rw [hp] at hop
            exact fin hop
          | true =>
            rw [hp] at hop
            simp only [cond_true] at hop
            split at hop
            · rename_i v _ k _
              cases hpl : plainB v with
              | false => rw [hpl] at hop; exact fin hop
              | true => rw [hpl] at hop; cases hop; exact .inl rfl
            · cases hop
      · cases hop
    · exact .inl (invD_w hop)
  | makeInterface ty x => obtain ⟨_, _, rfl⟩ := mk_some hop; exact .inl rfl
  | typeAssert x xt ty ok =>
    cases ok with
    | true => obtain ⟨_, _, rfl⟩ := mk_some hop; exact .inl rfl
    | false => cases hop
  | move x => cases hop; exact .inl rfl
  | assign x => cases hop; exact .inl rfl
  | pick c a b =>
    left
    simp only [opD] at hop
    split at hop
    · split at hop
      · cases hop; rfl
      · cases hop
    · cases hop
  | convert s d x =>
    left
    simp only [opD] at hop
    split at hop
    · cases hop; rfl
    · cases hop
  | extract x i =>
    left
    simp only [opD] at hop
    split at hop
    · obtain ⟨_, _, rfl⟩ := mk_some hop; rfl
    · cases hop
  | load ty x => obtain ⟨_, _, _, rfl⟩ := mk2_some hop; exact .inl rfl
  | binOp op ty x y yt =>
    left
    simp only [opD] at hop
    cases hs : isStrA E.P ty (evl t x).1 with
    | false => rw [hs, cond_false] at hop; obtain ⟨_, _, rfl⟩ := mk_some hop; rfl
    | true => rw [hs, cond_true] at hop; obtain ⟨_, _, _, rfl⟩ := mk2_some hop; rfl
  | unOp op ty x => obtain ⟨_, _, rfl⟩ := mk_some hop; exact .inl rfl
  | index ty x ix => obtain ⟨_, _, _, rfl⟩ := mk2_some hop; exact .inl rfl
  | indexAddr ty x ix => obtain ⟨_, _, _, rfl⟩ := mk2_some hop; exact .inl rfl
  | _ => cases hop
end Ev
namespace Ev
noncomputable section
open Go Go.RowKit
variable [Frn]

abbrev Out := (Value × Bool) × W × Bool
def stepOut (E : Env) (chk : Nat → Bool) (ops : List Oper) (nid : Nat) (o : Oper) (t : List (Value × Bool)) (h : Heap) : Option Out :=
  match o.guard with
  | none => match opD E true chk nid t h o.op with
    | some r => some ((r.val, r.g), r.w, r.ok)
    | none => none
  | some gd =>
    match opD E true chk nid t h o.op with
    | some ⟨v, g, .no, k⟩ => some ((v, guardD ops t (some gd) && g), .no, (k || !guardD ops t (some gd)))
    | some ⟨v, g, .all h', k⟩ => some ((v, guardD ops t (some gd) && g), bif guardD ops t (some gd) then .all h' else .no, (k || !guardD ops t (some gd)))
    | _ => some ((undef, false), .no, !guardD ops t (some gd))
def applyO (o : Oper) (q : Out) (s : St) : St := ⟨putT s.tmps o.dst q.1, putW s.heap q.2.1, q.2.2 && s.ok⟩
theorem stepD_eq (E : Env) (chk : Nat → Bool) (ops : List Oper) (nid : Nat) (o : Oper) (s : St) : stepD E true chk ops nid o s = (stepOut E chk ops nid o s.tmps s.heap).map fun q => applyO o q s := by
  unfold stepD stepOut
  cases o.guard with
  | none =>
    simp only
    cases opD E true chk nid s.tmps s.heap o.op <;> rfl
  | some gd =>
    simp only
    cases hop : opD E true chk nid s.tmps s.heap o.op with
    | none => rfl
    | some r =>
      obtain ⟨v, g, w, k⟩ := r
      cases w with
      | no => rfl
      | at_ b cs => rfl
      | all h' =>
        unfold applyO
        simp only [Option.map_some, Option.some.injEq, St.mk.injEq, true_and, and_true]
        cases guardD ops s.tmps (some _) <;> rfl

theorem guardD_same {ops : List Oper} {t t' : List (Value × Bool)} {o : Oper} (ht : LooksSame t t' (readsOf ops o)) : guardD ops t o.guard = guardD ops t' o.guard := by
  unfold guardD
  cases hg : o.guard with
  | none => rfl
  | some gd =>
    obtain ⟨j, want⟩ := gd
    simp only
    cases hj : ops[j]? with
    | none => rfl
    | some oj =>
      simp only
      cases hd : oj.dst with
      | none => rfl
      | some d =>
        simp only
        rw [ht d]
        unfold readsOf
        simp [hg, hj, hd]

theorem stepOut_same {E : Env} {chk : Nat → Bool} {ops : List Oper} {nid : Nat} {o : Oper} {t t' : List (Value × Bool)} {h h' : Heap} (ht : LooksSame t t' (readsOf ops o)) (hh : HeapSame E.rd chk nid o.op h h') :
    stepOut E chk ops nid o t h = stepOut E chk ops nid o t' h' := by
  have e1 : opD E true chk nid t h o.op = opD E true chk nid t' h' o.op := opD_same (fun i hi => ht i (by unfold readsOf; exact List.mem_append_left _ hi)) hh
  have e2 := guardD_same ht
  unfold stepOut
  cases hg : o.guard with
  | none => simp only [e1]
  | some gd => rw [hg] at e2; simp only [e1, e2]

theorem stepOut_w {E : Env} {chk : Nat → Bool} {ops : List Oper} {nid : Nat} {o : Oper} {t : List (Value × Bool)} {h : Heap} {q : Out} (hq : stepOut E chk ops nid o t h = some q) :
    q.2.1 = .no ∨ (isNew o.op = true ∧ ∃ cs, q.2.1 = .at_ nid cs) ∨ (isSt o.op = true ∧ ∃ b cs, chk b = true ∧ q.2.1 = .at_ b cs) ∨ (isCallV o.op = true ∧ E.rd = true ∧ ∃ h', h'.take h.length = h ∧ q.2.1 = .all h') := by
  unfold stepOut at hq
  split at hq
  · split at hq
    · rename_i r hr
      cases hq
      exact opD_w hr
    · cases hq
  · rename_i gd _
    split at hq
    · cases hq; exact .inl rfl
    · rename_i v g h' k hr
      cases hq
      cases hg : guardD ops t (some gd) with
      | false => exact .inl rfl
      | true =>
        rcases opD_w hr with h1 | ⟨_, _, h1⟩ | ⟨_, _, _, _, h1⟩ | ⟨h1, h2, h3, h4, h5⟩
        · cases h1
        · cases h1
        · cases h1
        · cases h5
          exact .inr (.inr (.inr ⟨h1, h2, h', h4, rfl⟩))
    · cases hq; exact .inl rfl
theorem len_take {h h' : Heap} (e : h'.take h.length = h) : h.length ≤ h'.length := by
  have := congrArg List.length e
  rw [List.length_take] at this
  omega
theorem getD_take {h h' : Heap} (e : h'.take h.length = h) {b : Nat} (hb : b < h.length) : h.getD b none = h'.getD b none := by
  conv => lhs; rw [← e]
  rw [List.getD_eq_getElem?_getD, List.getD_eq_getElem?_getD, List.getElem?_take_of_lt hb]
theorem len_out {E : Env} {chk : Nat → Bool} {ops : List Oper} {nid : Nat} {o : Oper} {t : List (Value × Bool)} {h : Heap} {q : Out} (hq : stepOut E chk ops nid o t h = some q) : h.length ≤ (putW h q.2.1).length := by
  rcases stepOut_w hq with e | ⟨_, cs, e⟩ | ⟨_, b, cs, _, e⟩ | ⟨_, _, h', e1, e⟩
  · rw [e]; exact Nat.le_refl _
  · rw [e]; simp [putW]
  · rw [e]; simp [putW]
  · rw [e]; exact len_take e1

structure Indep (rd stb : Bool) (ops : List Oper) (ms : List Nat) (lo : Nat) (y x : Nat × Oper) : Prop where
  l1 : rd = true → isCallV x.2.op = true → isSt y.2.op = false ∧ isNew y.2.op = false
  l2 : rd = true → isCallV y.2.op = true → isSt x.2.op = false ∧ (isNew x.2.op = true → stb = true ∧ y.2.guard = none)
  l3 : rd = true → isCallV y.2.op = true → isCallV x.2.op = false
  yx : ∀ d, y.2.dst = some d → d ∉ readsOf ops x.2
  xy : ∀ d, x.2.dst = some d → d ∉ readsOf ops y.2
  dd : ∀ d e, y.2.dst = some d → x.2.dst = some e → d ≠ e
  m1 : isSt y.2.op = true → isMem x.2.op = false
  m2 : isMem y.2.op = true → isSt x.2.op = false
  n : y.1 ≠ x.1
  c1 : chkD true ms lo x.1 (lo + y.1) = false
  c2 : chkD true ms lo y.1 (lo + x.1) = false

theorem looks_put {ops : List Oper} {t : List (Value × Bool)} {d : Option Tmp} {p : Value × Bool} {x : Oper} (h : ∀ e, d = some e → e ∉ readsOf ops x) : LooksSame t (putT t d p) (readsOf ops x) := fun _ hi =>
  (putT_getD fun e he hne => h e he (hne ▸ hi)).symm

theorem isNew_not_mem {o : Op} (h : isNew o = true) : isMem o = false := by cases o <;> first | rfl | cases h
theorem isSt_mem {o : Op} (h : isSt o = true) : isMem o = true := by cases o <;> first | rfl | cases h
theorem isNew_not_st {o : Op} (h : isNew o = true) : isSt o = false := by cases o <;> first | rfl | cases h

/-- a block that a reader may look at lies below 'top' -/
structure TopOk (E : Env) (ms : List Nat) (lo top : Nat) : Prop where
  chk : E.rd = true → ∀ i b, chkD true ms lo i b = true → b < top
  lo : lo ≤ top
/-- y's write leaves what x looks at -/
theorem heap_same {E : Env} {ops : List Oper} {ms : List Nat} {lo top : Nat} {y x : Nat × Oper} {t : List (Value × Bool)} {h : Heap} {q : Out} (hq : stepOut E (chkD true ms lo y.1) ops (lo + y.1) y.2 t h = some q)
    (ht : TopOk E ms lo top) (hlo : E.rd = true → top ≤ h.length) (hidx : E.rd = true → isNew x.2.op = true → lo + x.1 < top) (l1 : E.rd = true → isCallV x.2.op = true → isSt y.2.op = false ∧ isNew y.2.op = false) (l3 : E.rd = true → isCallV y.2.op = true → isCallV x.2.op = false) (m1 : isSt y.2.op = true → isMem x.2.op = false) (hne : y.1 ≠ x.1) (c1 : chkD true ms lo x.1 (lo + y.1) = false) (c2 : chkD true ms lo y.1 (lo + x.1) = false) :
    HeapSame E.rd (chkD true ms lo x.1) (lo + x.1) x.2.op h (putW h q.2.1) := by
  rcases stepOut_w hq with e | ⟨hnew, cs, e⟩ | ⟨hst, b, cs, hb, e⟩ | ⟨hcl, hrd, h', htk, e⟩
  · rw [e]; exact ⟨fun _ _ => rfl, fun _ _ _ => rfl, fun _ => rfl⟩
  · rw [e]
    refine ⟨fun hr hc => ?_, fun _ b hb => ?_, fun _ => ?_⟩
    · rw [(l1 hr hc).2] at hnew; cases hnew
    · refine (getD_set_ne (fun hc => ?_) _ _).symm
      rw [hc, hb] at c1; cases c1
    · unfold freshB putW
      rw [List.length_set, getD_set_ne (by omega)]
  · rw [e]
    refine ⟨fun hr hc => ?_, fun hm => ?_, fun _ => ?_⟩
    · rw [(l1 hr hc).1] at hst; cases hst
    · rw [m1 hst] at hm; cases hm
    · unfold freshB putW
      rw [List.length_set, getD_set_ne (fun hc => ?_)]
      rw [hc, c2] at hb; cases hb
  · rw [e]
    refine ⟨fun _ hc => ?_, fun _ b hb => ?_, fun hn => ?_⟩
    · rw [l3 hrd hcl] at hc; cases hc
    · refine getD_take htk ?_
      have hb' := ht.chk hrd x.1 b hb
      have := hlo hrd
      omega
    · have h1 := hidx hrd hn
      have h2 := hlo hrd
      have h3 := len_take htk
      unfold freshB putW
      rw [getD_take htk (show lo + x.1 < h.length by omega)]
      have e1 : Nat.blt (lo + x.1) h.length = true := Nat.ble_eq_true_of_le (show lo + x.1 + 1 ≤ h.length by omega)
      have e2 : Nat.blt (lo + x.1) h'.length = true := Nat.ble_eq_true_of_le (show lo + x.1 + 1 ≤ h'.length by omega)
      rw [e1, e2]
theorem isNew_not_call {o : Op} (h : isNew o = true) : isCallV o = false := by cases o <;> first | rfl | cases h
theorem new_fresh {E : Env} {chk : Nat → Bool} {nid : Nat} {t : List (Value × Bool)} {h : Heap} {o : Op} {r : OpRes} (hn : isNew o = true) (hr : opD E true chk nid t h o = some r) : h.getD nid none = none := by
  have key : freshB h nid = true → h.getD nid none = none := fun hf => (fresh_spec hf).2
  cases o with
  | alloc e =>
    simp only [opD] at hr
    split at hr
    · split at hr
      · rename_i z _
        cases hc : (freshB h nid && z.cells.toList.all canonB) with
        | false => rw [hc] at hr; cases hr
        | true => rw [Bool.and_eq_true] at hc; exact key hc.1
      · cases hr
    · cases hr
  | box e x =>
    simp only [opD] at hr
    cases hc : freshB h nid with
    | false => rw [hc] at hr; cases hr
    | true => exact key hc
  | buildSlice ty len parts =>
    simp only [opD] at hr
    cases hc : freshB h nid with
    | false => rw [hc] at hr; cases hr
    | true => exact key hc
  | makeSlice ty l c =>
    simp only [opD] at hr
    cases hc : freshB h nid with
    | false => rw [hc] at hr; cases hr
    | true => exact key hc
  | _ => cases hn
theorem take_set {h h' : Heap} (e : h'.take h.length = h) {n : Nat} (r : Option (List Value)) : (h'.set n r).take (h.set n r).length = h.set n r := by
  rw [List.length_set, List.take_set, e]
theorem callH_stab {E : Env} (hs : StableC E.call) {h : Heap} {id : FuncId} {as : List Value} {g : Bool} {nid : Nat} {row : List Value} {r : OpRes} (hr : callH E true h id as g = some r) (hok : r.ok = true) (hn : nid < h.length) (hf : h.getD nid none = none) :
    ∃ r', callH E true (h.set nid (some row)) id as g = some r' ∧ r'.val = r.val ∧ r'.g = r.g ∧ r'.ok = r.ok ∧ ((r.w = .no ∧ r'.w = .no) ∨ ∃ h', r.w = .all h' ∧ r'.w = .all (h'.set nid (some row))) := by
  unfold callH at hr ⊢
  split at hr
  · rename_i v h' k hc
    rw [hs.set id as h v h' k nid row hc hn hf]
    rw [cond_true] at hr
    simp only [cond_true]
    cases hq : E.rd with
    | false => rw [hq] at hr; cases hr
    | true =>
      rw [hq, cond_true, Option.some.injEq] at hr
      subst hr
      simp only [Bool.and_eq_true] at hok
      have e0 := hs.adds id as h v h' k hc
      have e := addF_of (b := E.stb) (take_set (n := nid) e0 (some row))
      rw [cond_true, e, hok.2]
      refine ⟨_, rfl, rfl, rfl, rfl, ?_⟩
      cases hp : plainB v with
      | true => exact .inl ⟨rfl, rfl⟩
      | false =>
        refine .inr ⟨_, rfl, ?_⟩
        show W.all _ = W.all _
        rw [more_eq e0, more_eq (take_set (n := nid) e0 (some row))]
  · cases hr
theorem getD_set_some {h : Heap} {nid b : Nat} {row r : List Value} (hf : h.getD nid none = none) (hr : h.getD b none = some r) : (h.set nid (some row)).getD b none = some r := by
  rw [getD_set_ne (fun hc => by subst hc; rw [hr] at hf; cases hf)]
  exact hr
theorem partsF_stab {h : Heap} {nid size : Nat} {row : List Value} {x : Value} {q : Nat × List Value × Bool} (hf : h.getD nid none = none) (hp : partsF h size x = some q) : partsF (h.set nid (some row)) size x = some q := by
  unfold partsF at hp ⊢
  split at hp
  · split at hp
    · rename_i cs hr
      simp only [getD_set_some hf hr]
      exact hp
    · cases hp
  · exact hp
  · cases hp
theorem appF_stab {P : Program} {h : Heap} {nid : Nat} {t : TypeId} {row : List Value} {s x : Value} {q : Value × Option Nat × List Value × Bool} (hf : h.getD nid none = none) (ha : appF P h t s x = some q) : appF P (h.set nid (some row)) t s x = some q := by
  unfold appF at ha ⊢
  rw [List.length_set]
  split at ha
  case h_2 => cases ha
  rename_i e ht
  cases hi : P.info? e with
  | none => rw [hi] at ha; cases ha
  | some i =>
  rw [hi] at ha
  dsimp only at ha ⊢
  cases hz : i.zero with
  | none => rw [hz] at ha; cases ha
  | some z =>
  rw [hz] at ha
  dsimp only at ha ⊢
  cases hp : partsF h i.size x with
  | none => rw [hp] at ha; cases ha
  | some q =>
  rw [hp] at ha
  rw [partsF_stab hf hp]
  obtain ⟨m, news, k⟩ := q
  dsimp only at ha ⊢
  split at ha
  · exact ha
  · rename_i b l c
    cases hc : Nat.beq c 0 with
    | true => rw [hc, cond_true] at ha; exact ha
    | false =>
      rw [hc, cond_false] at ha
      rw [cond_false]
      split at ha
      · rename_i cs hr
        simp only [getD_set_some hf hr]
        exact ha
      · cases ha
  · cases ha
theorem appE_stab {E : Env} {h : Heap} {nid : Nat} {row : List Value} {tys : List TypeId} {xs : List (Value × Bool)} {r : OpRes} (hr : appE E true h tys xs = some r) (hn : nid < h.length) (hf : h.getD nid none = none) :
    ∃ r', appE E true (h.set nid (some row)) tys xs = some r' ∧ r'.val = r.val ∧ r'.g = r.g ∧ r'.ok = r.ok ∧ ((r.w = .no ∧ r'.w = .no) ∨ ∃ h', r.w = .all h' ∧ r'.w = .all (h'.set nid (some row))) := by
  unfold appE at hr ⊢
  split at hr
  case h_2 => cases hr
  rename_i t1 t2 s1 s2
  cases htt : Nat.beq t1 t2 with
  | false => rw [htt] at hr; cases hr
  | true =>
  rw [htt, cond_true] at hr
  rw [cond_true]
  cases hF : appF E.P h t1 s1.1 s2.1 with
  | none => rw [hF] at hr; cases hr
  | some q =>
  rw [hF] at hr
  rw [appF_stab hf hF]
  obtain ⟨v, kill, rw0, k⟩ := q
  dsimp only at hr ⊢
  rw [cond_true] at hr ⊢
  cases hrd : E.rd with
  | false => rw [hrd] at hr; cases hr
  | true =>
    rw [hrd, cond_true] at hr
    rw [cond_true]
    cases kill with
    | none =>
      cases hr
      refine ⟨_, rfl, rfl, rfl, rfl, .inr ⟨_, rfl, ?_⟩⟩
      show W.all _ = W.all _
      rw [List.set_append_left _ _ hn]
    | some b => cases hr
theorem call_stab {E : Env} (hs : StableC E.call) {chk : Nat → Bool} {i nid : Nat} {t : List (Value × Bool)} {h : Heap} {o : Op} {row : List Value} {r : OpRes} (hc : isCallV o = true) (hr : opD E true chk i t h o = some r) (hok : r.ok = true) (hn : nid < h.length) (hf : h.getD nid none = none) :
    ∃ r', opD E true chk i t (h.set nid (some row)) o = some r' ∧ r'.val = r.val ∧ r'.g = r.g ∧ r'.ok = r.ok ∧ ((r.w = .no ∧ r'.w = .no) ∨ ∃ h', r.w = .all h' ∧ r'.w = .all (h'.set nid (some row))) := by
  cases o with
  | call c =>
    have wno := fun (w : OpRes) (e : w.w = .no) => (⟨rfl, rfl, rfl, .inl ⟨e, e⟩⟩ : w.val = w.val ∧ w.g = w.g ∧ w.ok = w.ok ∧ ((w.w = .no ∧ w.w = .no) ∨ ∃ h', w.w = .all h' ∧ w.w = .all (h'.set nid (some row))))
    simp only [opD] at hr ⊢
    split at hr
    · rename_i b _
      cases hap : isApp b with
      | true =>
        rw [hap, cond_true] at hr
        rw [cond_true]
        exact appE_stab hr hn hf
      | false =>
      rw [hap, cond_false] at hr
      rw [cond_false]
      refine ⟨r, hr, wno r ?_⟩
      unfold biD at hr
      split at hr
      · unfold lenOp at hr
        split at hr
        · split at hr
          · obtain ⟨_, _, rfl⟩ := mk_some hr; rfl
          · cases hr
        · cases hr
      · obtain ⟨_, _, _, _, _, rfl⟩ := mm_args hr; rfl
      · obtain ⟨_, _, _, _, _, rfl⟩ := mm_args hr; rfl
      · cases hr
    · unfold callD at hr ⊢
      split at hr
      · rename_i id first cap _
        split at hr
        · split at hr
          · cases hr; exact ⟨_, rfl, wno _ rfl⟩
          · cases hr
        · generalize (first.toList ++ (c.args.toList.map fun x => (evl t x).1) ++ cap.toList) = as at hr ⊢
          cases hp : as.all plainB with
          | false =>
            rw [hp, cond_false] at hr
            rw [cond_false]
            exact callH_stab hs hr hok hn hf
          | true =>
            rw [hp, cond_true] at hr
            rw [cond_true]
            split at hr
            · rename_i v _ k hck
              cases hpl : plainB v with
              | false =>
                rw [hpl, cond_false] at hr
                rw [cond_false]
                exact callH_stab hs hr hok hn hf
              | true =>
                rw [hpl, cond_true] at hr
                cases hr
                rw [cond_true]
                exact ⟨_, rfl, wno _ rfl⟩
            · cases hr
      · cases hr
    · exact ⟨r, hr, wno r (invD_w hr)⟩
  | _ => cases hc
theorem stepOut_stab {E : Env} (hs : StableC E.call) {chk : Nat → Bool} {ops : List Oper} {i nid : Nat} {o : Oper} {t : List (Value × Bool)} {h : Heap} {row : List Value} {q : Out} (hc : isCallV o.op = true) (hg : o.guard = none) (hq : stepOut E chk ops i o t h = some q) (hok : q.2.2 = true) (hn : nid < h.length) (hf : h.getD nid none = none) :
    ∃ q', stepOut E chk ops i o t (h.set nid (some row)) = some q' ∧ q'.1 = q.1 ∧ q'.2.2 = q.2.2 ∧ ((q.2.1 = .no ∧ q'.2.1 = .no) ∨ ∃ h', q.2.1 = .all h' ∧ q'.2.1 = .all (h'.set nid (some row))) := by
  unfold stepOut at hq ⊢
  rw [hg] at hq ⊢
  simp only at hq ⊢
  split at hq
  · rename_i r hr
    cases hq
    obtain ⟨r', h1, h2, h3, h4, h5⟩ := call_stab (row := row) hs hc hr hok hn hf
    rw [h1]
    exact ⟨_, rfl, by rw [h2, h3], h4, h5⟩
  · cases hq

theorem commute {E : Env} (hst : E.stb = true → StableC E.call) {ops : List Oper} {ms : List Nat} {lo top : Nat} {y x : Nat × Oper} (ht : TopOk E ms lo top) (hidx : E.rd = true → (isNew x.2.op = true → lo + x.1 < top) ∧ (isNew y.2.op = true → lo + y.1 < top)) (hi : Indep E.rd E.stb ops ms lo y x) {s s1 s2 : St} (hlo : E.rd = true → top ≤ s.heap.length) (hok2 : s2.ok = true)
    (h1 : stepD E true (chkD true ms lo y.1) ops (lo + y.1) y.2 s = some s1) (h2 : stepD E true (chkD true ms lo x.1) ops (lo + x.1) x.2 s1 = some s2) :
    ∃ s3, stepD E true (chkD true ms lo x.1) ops (lo + x.1) x.2 s = some s3 ∧ stepD E true (chkD true ms lo y.1) ops (lo + y.1) y.2 s3 = some s2 := by
  rw [stepD_eq] at h1 h2
  obtain ⟨qy, hy, rfl⟩ := Option.map_eq_some_iff.1 h1
  obtain ⟨qx, hx, rfl⟩ := Option.map_eq_some_iff.1 h2
  have hokY : qy.2.2 = true := by
    have : (qx.2.2 && (qy.2.2 && s.ok)) = true := hok2
    rw [Bool.and_eq_true, Bool.and_eq_true] at this
    exact this.2.1
  have hx' : stepOut E (chkD true ms lo x.1) ops (lo + x.1) x.2 s.tmps s.heap = some qx := by
    rw [stepOut_same (looks_put (p := qy.1) hi.yx) (heap_same hy ht hlo (fun hr => (hidx hr).1) hi.l1 hi.l3 hi.m1 hi.n hi.c1 hi.c2)]
    exact hx
  refine ⟨applyO x.2 qx s, by rw [stepD_eq, hx']; rfl, ?_⟩
  have m1' : isSt x.2.op = true → isMem y.2.op = false := fun h => by
    cases hm : isMem y.2.op with
    | false => rfl
    | true => rw [hi.m2 hm] at h; cases h
  have tm : putT (putT s.tmps x.2.dst qx.1) y.2.dst qy.1 = putT (putT s.tmps y.2.dst qy.1) x.2.dst qx.1 := by
    cases hd : y.2.dst with
    | none => rfl
    | some d =>
      cases he : x.2.dst with
      | none => rfl
      | some e => exact List.set_comm _ _ (Ne.symm (hi.dd d e hd he))
  have fl : (qy.2.2 && (qx.2.2 && s.ok)) = (qx.2.2 && (qy.2.2 && s.ok)) := by
    rw [← Bool.and_assoc, ← Bool.and_assoc, Bool.and_comm qx.2.2]
  by_cases hsp : E.rd = true ∧ isCallV y.2.op = true ∧ isNew x.2.op = true
  · obtain ⟨hrd, hcy, hnx⟩ := hsp
    obtain ⟨hstb, hgy⟩ := (hi.l2 hrd hcy).2 hnx
    rw [stepD_eq]
    rcases stepOut_w hx' with e' | ⟨_, cs', e'⟩ | ⟨hst', _⟩ | ⟨hcl', _⟩
    · have hy' : stepOut E (chkD true ms lo y.1) ops (lo + y.1) y.2 (applyO x.2 qx s).tmps (applyO x.2 qx s).heap = some qy := by
        rw [← hy]
        refine (stepOut_same (looks_put (p := qx.1) hi.xy) ?_).symm
        show HeapSame _ _ _ _ s.heap (putW s.heap qx.2.1)
        rw [e']; exact ⟨fun _ _ => rfl, fun _ _ _ => rfl, fun _ => rfl⟩
      rw [hy', Option.map_some]
      congr 1
      unfold applyO
      simp only [St.mk.injEq]
      refine ⟨tm, ?_, fl⟩
      rw [e']; rfl
    · have hn : lo + x.1 < s.heap.length := Nat.lt_of_lt_of_le ((hidx hrd).1 hnx) (hlo hrd)
      have hfr : s.heap.getD (lo + x.1) none = none := by
        have hop : ∃ r, opD E true (chkD true ms lo x.1) (lo + x.1) s.tmps s.heap x.2.op = some r ∧ ∃ cs, r.w = .at_ (lo + x.1) cs := by
          unfold stepOut at hx'
          split at hx'
          · split at hx'
            · rename_i r hr
              cases hx'
              exact ⟨r, hr, _, e'⟩
            · cases hx'
          · split at hx'
            · cases hx'; cases e'
            · cases hx'
              rename_i v g h' k hr
              have : (bif guardD ops s.tmps (some _) then W.all h' else W.no) = W.at_ (lo + x.1) cs' := e'
              revert this
              cases guardD ops s.tmps (some _) <;> intro this <;> cases this
            · cases hx'; cases e'
        obtain ⟨r, hr, cs, hw⟩ := hop
        exact new_fresh hnx hr
      obtain ⟨q', g1, g2, g3, g4⟩ := stepOut_stab (row := cs') (hst hstb) hcy hgy hy hokY hn hfr
      have hy' : stepOut E (chkD true ms lo y.1) ops (lo + y.1) y.2 (applyO x.2 qx s).tmps (applyO x.2 qx s).heap = some q' := by
        rw [← g1]
        show stepOut E (chkD true ms lo y.1) ops (lo + y.1) y.2 (putT s.tmps x.2.dst qx.1) (putW s.heap qx.2.1) = _
        rw [e']
        exact (stepOut_same (looks_put (p := qx.1) hi.xy) ⟨fun _ _ => rfl, fun _ _ _ => rfl, fun _ => rfl⟩).symm
      rw [hy', Option.map_some]
      congr 1
      unfold applyO
      simp only [St.mk.injEq]
      rw [g2, g3]
      refine ⟨tm, ?_, fl⟩
      rw [e']
      rcases g4 with ⟨a1, a2⟩ | ⟨h', a1, a2⟩
      · rw [a1, a2]; rfl
      · rw [a1, a2]; rfl
    · have := isNew_not_st hnx
      rw [this] at hst'; cases hst'
    · rw [isNew_not_call hnx] at hcl'; cases hcl'
  · have l1' : E.rd = true → isCallV y.2.op = true → isSt x.2.op = false ∧ isNew x.2.op = false := fun hr hc => ⟨(hi.l2 hr hc).1, by
      cases hq : isNew x.2.op with
      | false => rfl
      | true => exact absurd ⟨hr, hc, hq⟩ hsp⟩
    have hy' : stepOut E (chkD true ms lo y.1) ops (lo + y.1) y.2 (applyO x.2 qx s).tmps (applyO x.2 qx s).heap = some qy := by
      rw [← hy]
      exact (stepOut_same (looks_put (p := qx.1) hi.xy) (heap_same hx' ht hlo (fun hr => (hidx hr).2) l1' (fun hr hc => by cases hcy : isCallV y.2.op with | false => rfl | true => rw [hi.l3 hr hcy] at hc; cases hc) m1' (Ne.symm hi.n) hi.c2 hi.c1)).symm
    rw [stepD_eq, hy', Option.map_some]
    congr 1
    unfold applyO
    simp only [St.mk.injEq]
    refine ⟨tm, ?_, fl⟩
    rcases stepOut_w hy with e | ⟨hnew, cs, e⟩ | ⟨hst, b, cs, hb, e⟩ | ⟨hcl, hrd, h', htk, e⟩
    · rw [e]; rfl
    · rcases stepOut_w hx' with e' | ⟨hnew', cs', e'⟩ | ⟨hst', b', cs', hb', e'⟩ | ⟨hcl', hrd', h'', ht', e'⟩
      · rw [e']; rfl
      · rw [e, e']; exact List.set_comm _ _ (by have := hi.n; omega)
      · rw [e, e']
        refine List.set_comm _ _ (fun hc => ?_)
        have := hi.c1
        rw [← hc, hb'] at this; cases this
      · rw [(hi.l1 hrd' hcl').2] at hnew; cases hnew
    · rcases stepOut_w hx' with e' | ⟨hnew', cs', e'⟩ | ⟨hst', b', cs', hb', e'⟩ | ⟨hcl', hrd', h'', ht', e'⟩
      · rw [e']; rfl
      · rw [e, e']
        refine List.set_comm _ _ (fun hc => ?_)
        have := hi.c2
        rw [hc, hb] at this; cases this
      · have := hi.m1 hst
        rw [isSt_mem hst'] at this; cases this
      · rw [(hi.l1 hrd' hcl').1] at hst; cases hst
    · rcases stepOut_w hx' with e' | ⟨hnew', cs', e'⟩ | ⟨hst', b', cs', hb', e'⟩ | ⟨hcl', hrd', h'', ht', e'⟩
      · rw [e, e']; rfl
      · rw [(l1' hrd hcl).2] at hnew'; cases hnew'
      · rw [(hi.l2 hrd hcl).1] at hst'; cases hst'
      · rw [hi.l3 hrd hcl] at hcl'; cases hcl'

def runL (E : Env) (ops : List Oper) (ms : List Nat) (lo : Nat) : List (Nat × Oper) → St → Option St
  | [], s => some s
  | x :: r, s => match stepD E true (chkD true ms lo x.1) ops (lo + x.1) x.2 s with
    | some s' => runL E ops ms lo r s'
    | none => none
def tagL : Nat → List Oper → List (Nat × Oper)
  | _, [] => []
  | i, o :: r => (i, o) :: tagL (i + 1) r
theorem runD_eq (E : Env) (ops : List Oper) (ms : List Nat) (lo : Nat) : ∀ (r : List Oper) (i : Nat) (s : St), runD E true ops ms lo i r s = runL E ops ms lo (tagL i r) s
  | [], _, _ => rfl
  | o :: r, i, s => by
    simp only [runD, tagL, runL]
    cases stepD E true (chkD true ms lo i) ops (lo + i) o s with
    | none => rfl
    | some s' => exact runD_eq E ops ms lo r (i + 1) s'

theorem len_step {E : Env} {chk : Nat → Bool} {ops : List Oper} {nid : Nat} {o : Oper} {s s' : St} (h : stepD E true chk ops nid o s = some s') : s.heap.length ≤ s'.heap.length := by
  rw [stepD_eq] at h
  obtain ⟨q, hq, rfl⟩ := Option.map_eq_some_iff.1 h
  exact len_out hq
theorem runL_ok' {E : Env} {ops : List Oper} {ms : List Nat} {lo : Nat} {s' : St} : ∀ (R : List (Nat × Oper)) (s : St), runL E ops ms lo R s = some s' → s'.ok = true → s.ok = true
  | [], s, h, hk => by simp only [runL, Option.some.injEq] at h; subst h; exact hk
  | x :: R, s, h, hk => by
    simp only [runL] at h
    split at h
    · rename_i s1 h1; exact step_ok h1 (runL_ok' R s1 h hk)
    · cases h
theorem to_front {E : Env} (hst : E.stb = true → StableC E.call) {ops : List Oper} {ms : List Nat} {lo top : Nat} {x : Nat × Oper} {R2 : List (Nat × Oper)} {s' : St} (ht : TopOk E ms lo top) (hxi : E.rd = true → isNew x.2.op = true → lo + x.1 < top) : ∀ (R1 : List (Nat × Oper)) (s : St), (E.rd = true → top ≤ s.heap.length) → (∀ y ∈ R1, Indep E.rd E.stb ops ms lo y x ∧ (E.rd = true → isNew y.2.op = true → lo + y.1 < top)) →
    s'.ok = true → runL E ops ms lo (R1 ++ x :: R2) s = some s' → ∃ s1, stepD E true (chkD true ms lo x.1) ops (lo + x.1) x.2 s = some s1 ∧ runL E ops ms lo (R1 ++ R2) s1 = some s' := by
  intro R1
  induction R1 with
  | nil =>
    intro s _ _ _ h
    simp only [List.nil_append, runL] at h
    split at h
    · rename_i s1 hs1; exact ⟨s1, hs1, h⟩
    · cases h
  | cons y R1 ih =>
    intro s hlo hi hok h
    simp only [List.cons_append, runL] at h
    split at h
    · rename_i sy hsy
      obtain ⟨s2, h2, h3⟩ := ih sy (fun hr => Nat.le_trans (hlo hr) (len_step hsy)) (fun z hz => hi z (List.mem_cons_of_mem _ hz)) hok h
      obtain ⟨s3, h4, h5⟩ := commute hst ht (fun hr => ⟨hxi hr, (hi y (List.mem_cons_self)).2 hr⟩) (hi y (List.mem_cons_self)).1 hlo (runL_ok' (R1 ++ R2) s2 h3 hok) hsy h2
      refine ⟨s3, h4, ?_⟩
      simp only [List.cons_append, runL, h5]
      exact h3
    · cases h
end
end Ev
namespace Ev
noncomputable section
open Go Go.RowKit
variable [Frn]

/-! ### Masks -/
theorem maskOf_spec {ms : List Nat} {j : Nat} : ∀ {es : List Edge}, (maskOf ms es).testBit j = true → ∃ e ∈ es, hard e = true ∧ (j = e.on ∨ (ms.getD e.on 0).testBit j = true)
  | [], h => by simp [maskOf] at h
  | e :: r, h => by
    simp only [maskOf] at h
    cases he : hard e with
    | false =>
      rw [he] at h
      obtain ⟨e', h1, h2⟩ := maskOf_spec h
      exact ⟨e', List.mem_cons_of_mem _ h1, h2⟩
    | true =>
      rw [he] at h
      simp only [cond_true, Nat.testBit_or, Bool.or_eq_true] at h
      rcases h with (h | h) | h
      · refine ⟨e, List.mem_cons_self, he, .inl ?_⟩
        rw [Nat.testBit_two_pow] at h
        exact (of_decide_eq_true h).symm
      · exact ⟨e, List.mem_cons_self, he, .inr h⟩
      · obtain ⟨e', h1, h2⟩ := maskOf_spec h
        exact ⟨e', List.mem_cons_of_mem _ h1, h2⟩

theorem masks_prefix : ∀ (r : List Oper) (ms : List Nat) (j : Nat), j < ms.length → (masks r ms).getD j 0 = ms.getD j 0
  | [], _, _, _ => rfl
  | o :: r, ms, j, h => by
    simp only [masks]
    rw [masks_prefix r _ j (by simp; omega)]
    simp [List.getD, List.getElem?_append_left h]

theorem masks_at : ∀ (r : List Oper) (ms : List Nat) (i : Nat) (o : Oper), r[i]? = some o → ∃ p : List Nat, (∀ j, j < ms.length + i → p.getD j 0 = (masks r ms).getD j 0) ∧ p.length = ms.length + i ∧ (masks r ms).getD (ms.length + i) 0 = maskOf p o.after.toList
  | [], _, _, _, h => by simp at h
  | o :: r, ms, 0, o', h => by
    simp at h; subst h
    refine ⟨ms, fun j hj => ?_, by simp, ?_⟩
    · exact (masks_prefix (o :: r) ms j (by omega)).symm
    · simp only [masks]
      rw [masks_prefix r _ _ (by simp)]
      simp [List.getD]
  | o :: r, ms, i + 1, o', h => by
    simp only [List.getElem?_cons_succ] at h
    obtain ⟨p, h1, h2, h3⟩ := masks_at r (ms ++ [maskOf ms o.after.toList]) i o' h
    simp only [List.length_append, List.length_cons, List.length_nil] at h1 h2 h3
    refine ⟨p, fun j hj => h1 j (by omega), by omega, ?_⟩
    simp only [masks]
    rw [← h3]
    congr 1
    omega

theorem masks_len : ∀ (r : List Oper) (ms : List Nat), (masks r ms).length = ms.length + r.length
  | [], ms => rfl
  | o :: r, ms => by
    unfold masks
    rw [masks_len r, List.length_append, List.length_cons, List.length_cons, List.length_nil]; omega
/-- a bit: an edge, or a bit behind an edge -/
theorem mask_bit {ops : List Oper} {i j : Nat} {o : Oper} (ho : ops[i]? = some o) (h : ((masks ops []).getD i 0).testBit j = true) :
    ∃ e ∈ o.after, hard e = true ∧ (j = e.on ∨ (e.on < i ∧ ((masks ops []).getD e.on 0).testBit j = true)) := by
  obtain ⟨p, h1, h2, h3⟩ := masks_at ops [] i o ho
  simp only [List.length_nil, Nat.zero_add] at h1 h2 h3
  rw [h3] at h
  obtain ⟨e, he, hh, hj⟩ := maskOf_spec h
  refine ⟨e, by simpa using he, hh, ?_⟩
  rcases hj with hj | hj
  · exact .inl hj
  · right
    by_cases hlt : e.on < i
    · exact ⟨hlt, by rw [← h1 _ hlt]; exact hj⟩
    · have : p.getD e.on 0 = 0 := by simp [List.getD, List.getElem?_eq_none (show p.length ≤ e.on by omega)]
      rw [this] at hj; simp at hj

def Closed (ops : Array Oper) (listed : Array Bool) : Prop := ∀ j o, ops[j]? = some o → listed.getD j false = true → ∀ e ∈ o.after, hard e = true → listed.getD e.on false = true

theorem anc_listed {ops : Array Oper} {listed : Array Bool} (hc : Closed ops listed) : ∀ (i : Nat) (o : Oper), ops[i]? = some o → (∀ e ∈ o.after, hard e = true → listed.getD e.on false = true) →
    ∀ j, ((masks ops.toList []).getD i 0).testBit j = true → listed.getD j false = true := by
  intro i
  induction i using Nat.strongRecOn with
  | _ i ih =>
    intro o ho hall j hj
    obtain ⟨e, he, hh, hk⟩ := mask_bit (ops := ops.toList) (by simpa using ho) hj
    have hl := hall e he hh
    rcases hk with rfl | ⟨hlt, hk⟩
    · exact hl
    · have hi : e.on < ops.size := by
        have := (Array.getElem?_eq_some_iff.1 ho).1
        omega
      have ho' : ops[e.on]? = some ops[e.on] := Array.getElem?_eq_getElem hi
      exact ih e.on hlt _ ho' (hc _ _ ho' hl) j hk

/-! ### The look's verdict -/
theorem pairsOk_spec {ops : List Oper} {m : Nat} {o : Oper} : ∀ (l : List Oper) (k : Nat), pairsOk ops m o k l = true → ∀ (i : Nat) p, l[i]? = some p → conflict ops p o = true → m.testBit (k + i) = true
  | [], _, _, i, p, hp, _ => by simp at hp
  | q :: r, k, h, i, p, hp, hc => by
    simp only [pairsOk, Bool.and_eq_true, Bool.or_eq_true, Bool.not_eq_true'] at h
    cases i with
    | zero =>
      simp at hp; subst hp
      rcases h.1 with h1 | h1
      · rw [h1] at hc; cases hc
      · exact h1
    | succ i =>
      have := pairsOk_spec r (k + 1) h.2 i p (by simpa using hp) hc
      rwa [show k + (i + 1) = k + 1 + i by omega]

theorem orderOk_spec {ops : List Oper} {ms : List Nat} : ∀ (l : List Oper) (k : Nat), orderOk ops ms k l = true → ∀ (i : Nat) o, l[i]? = some o →
    edgesLt (k + i) o.after.toList = true ∧ ∀ j p, j < k + i → ops[j]? = some p → conflict ops p o = true → (ms.getD (k + i) 0).testBit j = true
  | [], _, _, i, o, ho => by simp at ho
  | q :: r, k, h, i, o, ho => by
    simp only [orderOk, Bool.and_eq_true] at h
    cases i with
    | zero =>
      simp at ho; subst ho
      refine ⟨h.1.1, fun j p hj hp hc => ?_⟩
      have := pairsOk_spec _ 0 h.1.2 j p (by rw [List.getElem?_take, if_pos (by simpa using hj)]; exact hp) hc
      simpa using this
    | succ i =>
      have := orderOk_spec r (k + 1) h.2 i o (by simpa using ho)
      rwa [show k + 1 + i = k + (i + 1) by omega] at this

theorem inL_false {d : Option Tmp} {l : List Tmp} (h : inL d l = false) : ∀ e, d = some e → e ∉ l := fun e he hm => by
  subst he
  simp only [inL] at h
  have : l.any (Nat.beq e) = true := List.any_eq_true.2 ⟨e, hm, Nat.beq_refl e⟩
  rw [this] at h; cases h

theorem laxI_spec {ms : List Nat} {j : Nat} : ∀ (l : List Oper) (k : Nat), laxI ms j k l = true → ∀ (i : Nat) o, l[i]? = some o → isCallV o.op = true → (Nat.beq (k + i) j || (ms.getD (k + i) 0).testBit j || (ms.getD j 0).testBit (k + i)) = true
  | [], _, _, i, o, ho, _ => by simp at ho
  | q :: r, k, h, i, o, ho, hc => by
    simp only [laxI, Bool.and_eq_true] at h
    cases i with
    | zero =>
      simp at ho; subst ho
      have := h.1
      rw [hc] at this
      exact this
    | succ i =>
      have := laxI_spec r (k + 1) h.2 i o (by simpa using ho) hc
      rwa [show k + 1 + i = k + (i + 1) by omega] at this
theorem laxJ_spec {ms : List Nat} {ops : List Oper} : ∀ (l : List Oper) (k : Nat), laxJ ms ops k l = true → ∀ (j : Nat) p, l[j]? = some p → (isSt p.op = true ∨ isCallV p.op = true) → ∀ (i : Nat) o, ops[i]? = some o → isCallV o.op = true → (Nat.beq i (k + j) || (ms.getD i 0).testBit (k + j) || (ms.getD (k + j) 0).testBit i) = true
  | [], _, _, j, p, hp, _ => by simp at hp
  | q :: r, k, h, j, p, hp, hs => by
    simp only [laxJ, Bool.and_eq_true] at h
    cases j with
    | zero =>
      simp at hp; subst hp
      have h1 := h.1
      have : (isStore q.op || isCallV q.op) = true := by
        rcases hs with hs | hs
        · cases hq : q.op <;> first | rfl | (rw [hq] at hs; cases hs)
        · rw [hs, Bool.or_true]
      rw [this] at h1
      intro i o ho hc
      have := laxI_spec ops 0 h1 i o ho hc
      rwa [Nat.zero_add] at this
    | succ j =>
      have := laxJ_spec r (k + 1) h.2 j p (by simpa using hp) hs
      rwa [show k + 1 + j = k + (j + 1) by omega] at this
theorem lax_pair {ops : List Oper} (h : laxB ops = true) {i j : Nat} {o p : Oper} (hij : i ≠ j) (ho : ops[i]? = some o) (hp : ops[j]? = some p) (hc : isCallV o.op = true)
    (h1 : ((masks ops []).getD i 0).testBit j = false) (h2 : ((masks ops []).getD j 0).testBit i = false) : isSt p.op = false ∧ isNew p.op = false ∧ isCallV p.op = false := by
  unfold laxB at h
  cases hn : hasNew ops with
  | true => rw [hn] at h; cases h
  | false =>
    rw [hn, cond_false, Bool.and_eq_true] at h
    have h := h.2
    have key : ¬ (isSt p.op = true ∨ isCallV p.op = true) := fun hs => by
      have := laxJ_spec ops 0 h j p hp hs i o ho hc
      have h0 : Nat.beq i j = false := by
        cases hb : Nat.beq i j with
        | false => rfl
        | true => exact absurd (Nat.eq_of_beq_eq_true hb) hij
      rw [Nat.zero_add, h0, h1, h2] at this
      cases this
    refine ⟨?_, ?_, ?_⟩
    · cases hs : isSt p.op with
      | false => rfl
      | true => exact absurd (.inl hs) key
    · cases hw : isNew p.op with
      | false => rfl
      | true =>
        have : hasNew ops = true := List.any_eq_true.2 ⟨p, List.mem_of_getElem? hp, hw⟩
        rw [this] at hn; cases hn
    · cases hs : isCallV p.op with
      | false => rfl
      | true => exact absurd (.inr hs) key

theorem laxM_spec {ms : List Nat} {i : Nat} : ∀ (l : List Oper) (k : Nat), laxM ms i k l = true → ∀ (j : Nat) p, l[j]? = some p → isNew p.op = true → (Nat.ble i (k + j) || (ms.getD i 0).testBit (k + j)) = true
  | [], _, _, j, p, hp, _ => by simp at hp
  | q :: r, k, h, j, p, hp, hc => by
    simp only [laxM, Bool.and_eq_true] at h
    cases j with
    | zero =>
      simp at hp; subst hp
      have := h.1
      rw [hc] at this
      exact this
    | succ j =>
      have := laxM_spec r (k + 1) h.2 j p (by simpa using hp) hc
      rwa [show k + 1 + j = k + (j + 1) by omega] at this
theorem laxK_spec {ms : List Nat} {ops : List Oper} : ∀ (l : List Oper) (k : Nat), laxK ms ops k l = true → ∀ (i : Nat) o, l[i]? = some o → isCallV o.op = true → ∀ (j : Nat) p, ops[j]? = some p → isNew p.op = true → (Nat.ble (k + i) j || (ms.getD (k + i) 0).testBit j) = true
  | [], _, _, i, o, ho, _ => by simp at ho
  | q :: r, k, h, i, o, ho, hc => by
    simp only [laxK, Bool.and_eq_true] at h
    cases i with
    | zero =>
      simp at ho; subst ho
      have h1 := h.1
      rw [hc] at h1
      intro j p hp hn
      have := laxM_spec ops 0 h1 j p hp hn
      rwa [Nat.zero_add] at this
    | succ i =>
      have := laxK_spec r (k + 1) h.2 i o (by simpa using ho) hc
      rwa [show k + 1 + i = k + (i + 1) by omega] at this
/-- what a reader's region keeps: of 'lax' or, where calls are stable, of 'laxN' -/
structure LaxOk (stb : Bool) (ops : List Oper) : Prop where
  pair : ∀ {i j : Nat} {o p : Oper}, i ≠ j → ops[i]? = some o → ops[j]? = some p → isCallV o.op = true → ((masks ops []).getD i 0).testBit j = false → ((masks ops []).getD j 0).testBit i = false →
    isSt p.op = false ∧ isCallV p.op = false ∧ (j < i → isNew p.op = false) ∧ (isNew p.op = true → stb = true ∧ o.guard = none)
theorem lax_ok {stb : Bool} {ops : List Oper} (h : laxB ops = true) : LaxOk stb ops := ⟨fun hij ho hp hc h1 h2 => by
  obtain ⟨a, b, c⟩ := lax_pair h hij ho hp hc h1 h2
  exact ⟨a, c, fun _ => b, fun hn => by rw [b] at hn; cases hn⟩⟩
theorem laxN_ok {ops : List Oper} (h : laxN ops = true) : LaxOk true ops := ⟨fun {i j o p} hij ho hp hc h1 h2 => by
  unfold laxN at h
  rw [Bool.and_eq_true, Bool.and_eq_true] at h
  obtain ⟨hg, hj, hk⟩ := h
  have h0 : Nat.beq i j = false := by
    cases hb : Nat.beq i j with
    | false => rfl
    | true => exact absurd (Nat.eq_of_beq_eq_true hb) hij
  have key : ¬ (isSt p.op = true ∨ isCallV p.op = true) := fun hs => by
    have := laxJ_spec ops 0 hj j p hp hs i o ho hc
    rw [Nat.zero_add, h0, h1, h2] at this
    cases this
  refine ⟨?_, ?_, fun hlt => ?_, fun _ => ⟨rfl, ?_⟩⟩
  · cases hs : isSt p.op with
    | false => rfl
    | true => exact absurd (.inl hs) key
  · cases hs : isCallV p.op with
    | false => rfl
    | true => exact absurd (.inr hs) key
  · cases hn : isNew p.op with
    | false => rfl
    | true =>
      have := laxK_spec ops 0 hk i o ho hc j p hp hn
      rw [Nat.zero_add, h1, Bool.or_false] at this
      have := Nat.le_of_ble_eq_true this
      omega
  · have := List.all_eq_true.1 hg o (List.mem_of_getElem? ho)
    rw [hc, Bool.not_true, Bool.false_or] at this
    exact Option.isNone_iff_eq_none.1 this⟩
theorem indep_of {rd stb : Bool} {ops : List Oper} {ms : List Nat} {lo iy ix : Nat} {y x : Oper} (hms0 : ∀ i j, ((masks ops []).getD i 0).testBit j = false → (ms.getD i 0).testBit j = false) (hrd : rd = true → LaxOk stb ops) (hyo : ops[iy]? = some y) (hxo : ops[ix]? = some x) (hlt : iy < ix) (hn : ((masks ops []).getD ix 0).testBit iy = false) (hn' : ((masks ops []).getD iy 0).testBit ix = false) (hc : conflict ops y x = false) :
    Indep rd stb ops ms lo (iy, y) (ix, x) := by
  simp only [conflict, Bool.or_eq_false_iff] at hc
  obtain ⟨⟨⟨⟨c1, c2⟩, c3⟩, c4⟩, c5⟩ := hc
  refine ⟨fun hr hc => ⟨((hrd hr).pair (by omega) hxo hyo hc hn hn').1, ((hrd hr).pair (by omega) hxo hyo hc hn hn').2.2.1 hlt⟩, fun hr hc => ⟨((hrd hr).pair (by omega) hyo hxo hc hn' hn).1, ((hrd hr).pair (by omega) hyo hxo hc hn' hn).2.2.2⟩, fun hr hc => ((hrd hr).pair (by omega) hyo hxo hc hn' hn).2.1, inL_false c1, inL_false c2, fun d e hd he hde => ?_, fun h => ?_, fun h => ?_, by simp only; omega, ?_, ?_⟩
  · simp only at hd he
    rw [hd, he, hde] at c3
    simp [sameDst] at c3
  · simp only at h ⊢; rw [h] at c4; simpa using c4
  · simp only at h ⊢; rw [h] at c5; simpa using c5
  · simp only [chkD, Bool.not_true, Bool.false_or, Bool.or_eq_false_iff]
    refine ⟨?_, by rw [show lo + iy - lo = iy by omega]; exact hms0 _ _ hn⟩
    cases hb : Nat.blt (lo + iy) lo with
    | false => rfl
    | true => have := Nat.le_of_ble_eq_true hb; omega
  · simp only [chkD, Bool.not_true, Bool.false_or, Bool.or_eq_false_iff]
    refine ⟨?_, by rw [show lo + ix - lo = ix by omega]; exact hms0 _ _ hn'⟩
    cases hb : Nat.blt (lo + ix) lo with
    | false => rfl
    | true => have := Nat.le_of_ble_eq_true hb; omega

theorem edgesLt_spec {i : Nat} {es : List Edge} (h : edgesLt i es = true) : ∀ e ∈ es, hard e = true → e.on < i := fun e he hh => by
  have := List.all_eq_true.1 h e he
  rw [hh] at this
  have := Nat.le_of_ble_eq_true (show Nat.ble (e.on + 1) i = true by simpa [Nat.blt] using this)
  omega

/-- bits point down -/
theorem mask_lt {ops : List Oper} (hok : orderOk ops (masks ops []) 0 ops = true) : ∀ (i : Nat) (o : Oper), ops[i]? = some o → ∀ j, ((masks ops []).getD i 0).testBit j = true → j < i := by
  intro i
  induction i using Nat.strongRecOn with
  | _ i ih =>
    intro o ho j hj
    obtain ⟨e, he, hh, hk⟩ := mask_bit ho hj
    have hlt := edgesLt_spec (orderOk_spec ops 0 hok i o ho).1 e (by simpa using he) hh
    rw [Nat.zero_add] at hlt
    rcases hk with rfl | ⟨_, hk⟩
    · exact hlt
    · have hi : e.on < ops.length := by
        have := (List.getElem?_eq_some_iff.1 ho).1
        omega
      exact Nat.lt_trans (ih e.on hlt _ (List.getElem?_eq_getElem hi) j hk) hlt

/-! ### Whatever order -/
def Sorted : List (Nat × Oper) → Prop
  | [] => True
  | x :: r => (∀ y ∈ r, x.1 < y.1) ∧ Sorted r
theorem Sorted.mid : ∀ {R1 : List (Nat × Oper)} {x : Nat × Oper} {R2 : List (Nat × Oper)}, Sorted (R1 ++ x :: R2) → (∀ y ∈ R1, y.1 < x.1) ∧ Sorted (R1 ++ R2) ∧ (∀ y ∈ R1 ++ R2, y.1 ≠ x.1)
  | [], x, R2, h => ⟨by simp, h.2, fun y hy => by have := h.1 y (by simpa using hy); omega⟩
  | z :: R1, x, R2, h => by
    obtain ⟨h1, h2⟩ := h
    obtain ⟨g1, g2, g3⟩ := Sorted.mid h2
    have hz : z.1 < x.1 := h1 x (by simp)
    refine ⟨fun y hy => ?_, ⟨fun y hy => h1 y (by simp at hy ⊢; rcases hy with hy | hy <;> simp [hy]), g2⟩, fun y hy => ?_⟩
    · rcases List.mem_cons.1 hy with rfl | hy
      · exact hz
      · exact g1 y hy
    · simp only [List.cons_append, List.mem_cons] at hy
      rcases hy with rfl | hy
      · omega
      · exact g3 y hy

theorem any_order {E : Env} {D : List Deferred} {μ0 : Mu} (hE : EnvOk E) {ops : Array Oper} {ms : List Nat} (hms0 : ∀ i j, ((masks ops.toList []).getD i 0).testBit j = false → (ms.getD i 0).testBit j = false) (hrd : E.rd = true → LaxOk E.stb ops.toList) (hok : orderOk ops.toList (masks ops.toList []) 0 ops.toList = true) {lo top : Nat} (ht : TopOk E ms lo top) (hnew : E.rd = true → ∀ (i : Nat) o, ops.toList[i]? = some o → isNew o.op = true → lo + i < top) {B : Nat} {w0 : World} {Q : Exit → Act → World → Prop} {s' : St}
    (hQ : ∀ a' w', Sim D μ0 B w0 s' a' w' → Q .normal a' w') (hs' : s'.ok = true) :
    ∀ (fuel : Nat) (R : List (Nat × Oper)) (listed : Array Bool) (s : St) (a : Act) (w : World), R.length ≤ fuel → listed.size = ops.size → Closed ops listed → Sorted R →
      (∀ x ∈ R, ops[x.1]? = some x.2) → (∀ i, i < ops.size → (listed.getD i true = false ↔ ∃ x ∈ R, x.1 = i)) →
      top ≤ s.heap.length → runL E ops.toList ms lo R s = some s' → Sim D μ0 B w0 s a w → wpAny E.P .any ops Q fuel listed a w := by
  have runL_ok : ∀ (R : List (Nat × Oper)) (s : St), runL E ops.toList ms lo R s = some s' → s.ok = true := by
    intro R
    induction R with
    | nil => intro s h; simp only [runL, Option.some.injEq] at h; subst h; exact hs'
    | cons x R ih =>
      intro s h
      simp only [runL] at h
      split at h
      · rename_i s1 h1; exact step_ok h1 (ih s1 h)
      · cases h
  have empty : ∀ (R : List (Nat × Oper)) (listed : Array Bool), Sorted R → (∀ x ∈ R, ops[x.1]? = some x.2) → listed.size = ops.size → (∀ i, i < ops.size → (listed.getD i true = false ↔ ∃ x ∈ R, x.1 = i)) → Region.ready .any ops listed = [] → R = [] := by
    intro R listed hso hR hsz hl hr
    cases R with
    | nil => rfl
    | cons x R =>
      exfalso
      have hx := hR x List.mem_cons_self
      have hlt : x.1 < ops.size := (Array.getElem?_eq_some_iff.1 hx).1
      have : x.1 ∈ Region.ready .any ops listed := by
        rw [mem_ready]
        refine ⟨(hl x.1 hlt).2 ⟨x, List.mem_cons_self, rfl⟩, x.2, hx, fun e he hb => ?_⟩
        have hlt' := edgesLt_spec (orderOk_spec ops.toList 0 hok x.1 x.2 (by simpa using hx)).1 e (by simpa using he) hb
        rw [Nat.zero_add] at hlt'
        cases hg : listed.getD e.on false with
        | true => rfl
        | false =>
          have h2 : listed.getD e.on true = false := by
            have hin : e.on < listed.size := by omega
            simp [hin] at hg ⊢; exact hg
          obtain ⟨z, hz, hze⟩ := (hl e.on (by omega)).1 h2
          rcases List.mem_cons.1 hz with rfl | hz
          · omega
          · have := hso.1 z hz; omega
      rw [hr] at this; cases this
  intro fuel
  induction fuel with
  | zero =>
    intro R listed s a w hf hsz hc hso hR hl hlo hr hs
    have hR0 : R = [] := List.length_eq_zero_iff.1 (by omega)
    subst hR0
    simp only [runL, Option.some.injEq] at hr
    subst hr
    refine ⟨?_, hQ a w hs⟩
    refine List.eq_nil_iff_forall_not_mem.2 fun i hi => ?_
    obtain ⟨h0, o, ho, _⟩ := mem_ready.1 hi
    obtain ⟨x, hx, _⟩ := (hl i (Array.getElem?_eq_some_iff.1 ho).1).1 h0
    cases hx
  | succ fuel ih =>
    intro R listed s a w hf hsz hc hso hR hl hlo hr hs
    refine ⟨fun h0 => ?_, fun i hi => ?_⟩
    · have := empty R listed hso hR hsz hl h0
      subst this
      simp only [runL, Option.some.injEq] at hr
      subst hr
      exact hQ a w hs
    · obtain ⟨h0, o, ho, hall⟩ := mem_ready.1 hi
      have hlt : i < ops.size := (Array.getElem?_eq_some_iff.1 ho).1
      obtain ⟨x, hx, rfl⟩ := (hl i hlt).1 h0
      have hxo : x.2 = o := by have := hR x hx; rw [ho] at this; cases this; rfl
      subst hxo
      obtain ⟨R1, R2, rfl⟩ := List.append_of_mem hx
      obtain ⟨g1, g2, g3⟩ := hso.mid
      have hind : ∀ y ∈ R1, Indep E.rd E.stb ops.toList ms lo y x ∧ (E.rd = true → isNew y.2.op = true → lo + y.1 < top) := fun y hy => by
        have hyo := hR y (by simp [hy])
        refine ⟨?_, fun hr hn => hnew hr y.1 y.2 (by simpa using hyo) hn⟩
        have hylt : y.1 < ops.size := (Array.getElem?_eq_some_iff.1 hyo).1
        have hyx := g1 y hy
        have hyun : listed.getD y.1 true = false := (hl y.1 hylt).2 ⟨y, by simp [hy], rfl⟩
        have hbit : ((masks ops.toList []).getD x.1 0).testBit y.1 = false := by
          cases hb : ((masks ops.toList []).getD x.1 0).testBit y.1 with
          | false => rfl
          | true =>
            have := anc_listed hc x.1 x.2 ho hall y.1 hb
            have hin : y.1 < listed.size := by omega
            simp [hin] at this hyun
            rw [this] at hyun; cases hyun
        have hbit' : ((masks ops.toList []).getD y.1 0).testBit x.1 = false := by
          cases hb : ((masks ops.toList []).getD y.1 0).testBit x.1 with
          | false => rfl
          | true => have := mask_lt hok y.1 y.2 (by simpa using hyo) x.1 hb; omega
        refine indep_of hms0 hrd (by simpa using hyo) (by simpa using ho) hyx hbit hbit' ?_
        cases hcf : conflict ops.toList y.2 x.2 with
        | false => rfl
        | true =>
          have := (orderOk_spec ops.toList 0 hok x.1 x.2 (by simpa using ho)).2 y.1 y.2 (by omega) (by simpa using hyo) hcf
          rw [Nat.zero_add] at this
          rw [this] at hbit; cases hbit
      obtain ⟨s1, h1, h2⟩ := to_front hE.stab ht (fun hr hn => hnew hr x.1 x.2 (by simpa using ho) hn) R1 s (fun _ => hlo) hind hs' hr
      obtain ⟨μ, hs⟩ := hs
      have hnext : ∀ a' w', Sim D μ0 B w0 s1 a' w' → wpAny E.P .any ops Q fuel (listed.setIfInBounds x.1 true) a' w' := fun a' w' hsim => by
        refine ih (R1 ++ R2) (listed.setIfInBounds x.1 true) s1 a' w' (by simp at hf ⊢; omega) (by simp [hsz]) (fun j oj hoj hj e he hh => ?_) g2 (fun y hy => hR y (by simp at hy ⊢; rcases hy with hy | hy <;> simp [hy])) (fun j hj => ?_) (Nat.le_trans hlo (len_step h1)) h2 hsim
        · refine Go.getD_set_true ?_
          by_cases hjx : x.1 = j
          · subst hjx
            rw [ho] at hoj; cases hoj
            exact hall e he hh
          · rw [Go.getD_set_ne false hjx] at hj
            exact hc j oj hoj hj e he hh
        · by_cases hjx : x.1 = j
          · subst hjx
            constructor
            · intro h
              have hin : x.1 < listed.size := by omega
              simp [hin] at h
            · rintro ⟨y, hy, hyj⟩
              exact absurd hyj (g3 y hy)
          · rw [Go.getD_set_ne true hjx, hl j hj]
            constructor
            · rintro ⟨y, hy, rfl⟩
              simp at hy
              rcases hy with hy | rfl | hy
              · exact ⟨y, by simp [hy], rfl⟩
              · exact absurd rfl hjx
              · exact ⟨y, by simp [hy], rfl⟩
            · rintro ⟨y, hy, rfl⟩
              simp at hy
              exact ⟨y, by simp; rcases hy with hy | hy <;> simp [hy], rfl⟩
      have hgo := step_goes hE h1 (runL_ok _ _ h2) hs _ Q hnext
      unfold wpOp
      rw [ho]
      show if Region.wanted x.2 (yielded ops a.tmps) = true then _ else _
      split
      · rename_i hw; rw [if_pos hw] at hgo; exact .inl hgo
      · rename_i hw; rw [if_neg hw] at hgo; exact hgo

theorem tagL_spec : ∀ (l : List Oper) (k : Nat), Sorted (tagL k l) ∧ (∀ x ∈ tagL k l, k ≤ x.1 ∧ l[x.1 - k]? = some x.2) ∧ (∀ i, i < l.length → ∃ x ∈ tagL k l, x.1 = k + i) ∧ (tagL k l).length = l.length
  | [], _ => ⟨trivial, by simp [tagL], by simp, rfl⟩
  | o :: r, k => by
    obtain ⟨h1, h2, h3, h4⟩ := tagL_spec r (k + 1)
    refine ⟨⟨fun y hy => by have := (h2 y hy).1; simp only; omega, h1⟩, fun x hx => ?_, fun i hi => ?_, by simp [tagL, h4]⟩
    · rcases List.mem_cons.1 hx with rfl | hx
      · simp
      · obtain ⟨g1, g2⟩ := h2 x hx
        refine ⟨by omega, ?_⟩
        rw [show x.1 - k = (x.1 - (k + 1)) + 1 by omega]
        simpa using g2
    · cases i with
      | zero => exact ⟨(k, o), List.mem_cons_self, by simp⟩
      | succ i =>
        obtain ⟨x, hx, he⟩ := h3 i (by simpa using hi)
        exact ⟨x, List.mem_cons_of_mem _ hx, by omega⟩

theorem Sim.drew {D : List Deferred} {μ0 : Mu} {B : Nat} {w0 : World} {s : St} {a : Act} {w : World} (h : Sim D μ0 B w0 s a w) : Sim D μ0 B w0 s a { w with drawn := w.drawn + 1 } := by
  obtain ⟨μ, h⟩ := h
  exact ⟨μ, h.tmps, h.heap.drew, h.below.trans (Below.drawn B w), h.room, h.defers, h.sub⟩

theorem Sim.room_more {D : List Deferred} {μ0 : Mu} {B : Nat} {w0 : World} {s : St} {a : Act} {w : World} (h : Sim D μ0 B w0 s a w) (n : Nat) : Sim D μ0 B w0 { s with heap := s.heap ++ List.replicate n none } a w := by
  obtain ⟨μ, h⟩ := h
  have hg : ∀ b, (s.heap ++ List.replicate n none).getD b none = s.heap.getD b none := fun b => by
    by_cases hb : b < s.heap.length
    · simp [List.getD, List.getElem?_append_left hb]
    · have : s.heap[b]? = none := List.getElem?_eq_none (by omega)
      simp only [List.getD, List.getElem?_append_right (show s.heap.length ≤ b by omega), this, Option.getD_none]
      rw [List.getElem?_replicate]
      split <;> rfl
  exact ⟨μ, h.tmps, ⟨fun b cs e => h.heap.dom b cs (by rw [← hg b]; exact e), fun b cs b' cs' T e => h.heap.size b cs b' cs' T (by rw [← hg b]; exact e), h.heap.base, h.heap.inv, fun b e => h.heap.non b (by rw [← hg b]; exact e), fun b1 b2 x d1 d2 => h.heap.inj b1 b2 x (by rw [← hg b1]; exact d1) (by rw [← hg b2]; exact d2)⟩, h.below, h.room, h.defers, h.sub⟩

theorem region_goes {E : Env} {D : List Deferred} {μ0 : Mu} (hE : EnvOk E) (hm : E.P.follows .mixedOrders = true) {id : Nat} {ops : Array Oper} {draw : Bool} {s s' : St} {B : Nat} {w0 w : World} {a : Act} {Q : Exit → Act → World → Prop}
    (hcode : codeOk (.region id ops draw) = true) (hr : regionD E draw ops.toList s = some s') (hok : s'.ok = true) (hs : Sim D μ0 B w0 s a w) (hQ : ∀ a' w', Sim D μ0 B w0 s' a' w' → Q .normal a' w') : (Code.region id ops draw).wp E.P Q a w := by
  have key : ∀ b ms, (b = true → LaxOk E.stb ops.toList) → (∀ i j, ((masks ops.toList []).getD i 0).testBit j = false → (ms.getD i 0).testBit j = false) → ∀ s lo top, TopOk (E.at b) ms lo top → (b = true → ∀ (i : Nat) o, ops.toList[i]? = some o → isNew o.op = true → lo + i < top) → top ≤ s.heap.length → runD (E.at b) draw ops.toList ms lo 0 ops.toList s = some s' → Sim D μ0 B w0 s a w → (Code.region id ops draw).wp E.P Q a w := by
    intro b ms hb hms0 s lo top ht hnew hlo hr hs
    have hE' : EnvOk (E.at b) := ⟨hE.stab, hE.ext, hE.call, hE.enter⟩
    cases draw with
    | false =>
      refine wp_region ?_
      have := run_seq hE' (Q := Q) hQ hok (fun i r s h => run_ok r i s s' h hok) ops.toList 0 s a w rfl hr hs
      rw [List.range_eq_range']
      have h0 : (E.at b).P = E.P := rfl
      rw [h0] at this
      simpa using this
    | true =>
      refine wp_region_any hm ?_
      rw [runD_eq] at hr
      obtain ⟨t1, t2, t3, t4⟩ := tagL_spec ops.toList 0
      refine any_order hE' hms0 hb hcode ht hnew hQ hok ops.size (tagL 0 ops.toList) _ s a _ (by rw [t4]; simp) (by simp) (fun j o ho hj => ?_) t1 (fun x hx => ?_) (fun i hi => ?_) hlo hr hs.drew
      · have hlt : j < ops.size := (Array.getElem?_eq_some_iff.1 ho).1
        simp [hlt] at hj
      · have := (t2 x hx).2; simpa using this
      · refine ⟨fun _ => ?_, fun _ => by simp [hi]⟩
        obtain ⟨x, hx, he⟩ := t3 i (by simpa using hi)
        exact ⟨x, hx, by omega⟩
  have blt : ∀ {b lo : Nat}, Nat.blt b lo = true → b < lo := fun h => Nat.le_of_ble_eq_true h
  unfold regionD at hr
  cases hn : hasNew ops.toList with
  | false =>
    rw [hn] at hr
    refine key (draw && laxB ops.toList) _ (fun hb => lax_ok (Bool.and_eq_true .. ▸ hb).2) ?_ _ _ s.heap.length ⟨fun hb i b hc => ?_, Nat.le_refl _⟩ (fun _ i o ho hno => ?_) (Nat.le_refl _) hr hs
    · intro i j hf
      cases draw && laxB ops.toList with
      | true => simp
      | false => exact hf
    · have hb : (draw && laxB ops.toList) = true := hb
      rw [hb, cond_true] at hc
      have hc : (Nat.blt b s.heap.length || (([] : List Nat).getD i 0).testBit (b - s.heap.length)) = true := hc
      have h0 : (([] : List Nat).getD i 0).testBit (b - s.heap.length) = false := by simp
      rw [h0, Bool.or_false] at hc
      exact blt hc
    · have : hasNew ops.toList = true := List.any_eq_true.2 ⟨o, List.mem_of_getElem? ho, hno⟩
      rw [this] at hn; cases hn
  | true =>
    rw [hn] at hr
    refine key (E.stb && (draw && laxN ops.toList)) _ (fun hb => ?_) (fun _ _ h => h) _ _ (s.heap.length + ops.toList.length) ⟨fun hb i b hc => ?_, by omega⟩ (fun _ i o ho _ => ?_) (by simp) hr (hs.room_more ops.toList.length)
    · rw [Bool.and_eq_true, Bool.and_eq_true] at hb
      rw [hb.1]
      exact laxN_ok hb.2.2
    · have hc : (Nat.blt b s.heap.length || (((masks ops.toList []).getD i 0).testBit (b - s.heap.length))) = true := hc
      rw [Bool.or_eq_true] at hc
      rcases hc with hc | hc
      · have := blt hc; omega
      · have hi : i < ops.toList.length := by
          refine Nat.lt_of_not_le fun hle => ?_
          rw [List.getD_eq_getElem?_getD, List.getElem?_eq_none (by rw [masks_len]; simpa using hle)] at hc
          simp at hc
        have hb : (E.stb && (draw && laxN ops.toList)) = true := hb
        rw [Bool.and_eq_true, Bool.and_eq_true] at hb
        have hcode : orderOk ops.toList (masks ops.toList []) 0 ops.toList = true := by rw [hb.2.1] at hcode; exact hcode
        have := mask_lt hcode i _ (List.getElem?_eq_getElem hi) _ hc
        omega
    · have := (List.getElem?_eq_some_iff.1 ho).1
      omega
end
end Ev
namespace Ev
noncomputable section
open Go Go.RowKit
variable [Frn]

def exOf : Ex → Exit
  | .normal => .normal
  | .exit id => .exit id
  | .ret => .ret

theorem codeK_ok {E : Env} {r : Value × Heap × Bool} : ∀ (n : Nat) (c : Code) (s : St) (k : Ex → St → Ans), (∀ e s, k e s = some r → s.ok = true) → codeK E n c s k = some r → s.ok = true
  | 0, _, _, _, _, h => by simp [codeK] at h
  | n + 1, c, s, k, hk, h => by
    cases c with
    | skip => exact hk _ _ h
    | region id ops draw =>
      simp only [codeK] at h
      cases hr : regionD E draw ops.toList s with
      | none => rw [hr] at h; cases h
      | some s' =>
        rw [hr] at h
        have h2 := hk _ _ h
        unfold regionD at hr
        cases hn : hasNew ops.toList with
        | false => rw [hn] at hr; exact run_ok _ _ _ _ hr h2
        | true => rw [hn] at hr; exact run_ok (s := { s with heap := s.heap ++ List.replicate ops.toList.length none }) _ _ _ hr h2
    | seq a b =>
      refine codeK_ok n a s _ (fun e s' he => ?_) h
      cases e with
      | normal => exact codeK_ok n b s' k hk he
      | exit id => exact hk _ _ he
      | ret => exact hk _ _ he
    | cond x a b =>
      simp only [codeK] at h
      split at h
      · rename_i t g _
        cases t with
        | true => have := codeK_ok n a _ k hk h; simp only [Bool.and_eq_true] at this; exact this.2
        | false => have := codeK_ok n b _ k hk h; simp only [Bool.and_eq_true] at this; exact this.2
      · cases h
    | block id a =>
      refine codeK_ok n a s _ (fun e s' he => ?_) h
      cases e with
      | normal => exact hk _ _ he
      | exit j =>
        simp only at he
        cases hj : Nat.beq j id with
        | true => rw [hj] at he; exact hk _ _ he
        | false => rw [hj] at he; exact hk _ _ he
      | ret => exact hk _ _ he
    | loop a =>
      refine codeK_ok n a s _ (fun e s' he => ?_) h
      cases e with
      | normal => exact codeK_ok n (.loop a) s' k hk he
      | exit id => exact hk _ _ he
      | ret => exact hk _ _ he
    | exit id => exact hk _ _ h
    | scope a => exact codeK_ok n a s k hk h
    | label l => exact hk _ _ h
    | ret => exact hk _ _ h
    | _ => simp [codeK] at h

theorem code_goes {E : Env} {D : List Deferred} {μ0 : Mu} (hE : EnvOk E) (hm : E.P.follows .mixedOrders = true) {B : Nat} {w0 : World} {r : Value × Heap × Bool} :
    ∀ (n : Nat) (c : Code) (s : St) (k : Ex → St → Ans) (Q : Exit → Act → World → Prop) (a : Act) (w : World), codeOk c = true → (∀ e s, k e s = some r → s.ok = true) → codeK E n c s k = some r → Sim D μ0 B w0 s a w →
      (∀ e s', k e s' = some r → ∀ a' w', Sim D μ0 B w0 s' a' w' → Q (exOf e) a' w') → c.wp E.P Q a w ∧ ∀ b, c = .loop b → Code.rounds E.P b Q n a w := by
  intro n
  induction n with
  | zero => intro c s k Q a w _ _ h; simp [codeK] at h
  | succ n ih =>
    intro c s k Q a w hc hk h hs hQ
    cases c with
    | skip => exact ⟨wp_skip (hQ _ _ h _ _ hs), by simp⟩
    | region id ops draw =>
      refine ⟨?_, by simp⟩
      simp only [codeK] at h
      cases hrg : regionD E draw ops.toList s with
      | none => rw [hrg] at h; cases h
      | some s' =>
        rw [hrg] at h
        exact region_goes hE hm hc hrg (hk _ _ h) hs (fun a' w' hs' => hQ .normal s' h a' w' hs')
    | seq x y =>
      refine ⟨?_, by simp⟩
      simp only [codeOk, Bool.and_eq_true] at hc
      refine wp_seq (ih x s _ _ a w hc.1 (fun e s' he => ?_) h hs (fun e s' he a' w' hs' => ?_)).1
      · cases e with
        | normal => exact codeK_ok n y s' k hk he
        | exit id => exact hk _ _ he
        | ret => exact hk _ _ he
      · cases e with
        | normal => exact (ih y s' k Q a' w' hc.2 hk he hs' hQ).1
        | exit id => exact hQ _ _ he a' w' hs'
        | ret => exact hQ _ _ he a' w' hs'
    | cond x y z =>
      refine ⟨?_, by simp⟩
      simp only [codeOk, Bool.and_eq_true] at hc
      simp only [codeK] at h
      split at h
      · rename_i t g he
        have hg : g = true ∧ ∀ (_ : Nat), Sim D μ0 B w0 { s with ok := g && s.ok } a w := by
          have h2 : (g && s.ok) = true := by
            cases t with
            | true => exact codeK_ok n y _ k hk h
            | false => exact codeK_ok n z _ k hk h
          simp only [Bool.and_eq_true] at h2
          obtain ⟨μ, q⟩ := hs
          exact ⟨h2.1, fun _ => ⟨μ, q.tmps, q.heap, q.below, q.room, q.defers, q.sub⟩⟩
        have hx : a.eval x = .bool t := by
          obtain ⟨μ, q⟩ := hs
          have := evl_sound q.tmps x (by rw [he]; exact hg.1)
          rw [he] at this
          exact this.bool_inv
        cases t with
        | true => exact wp_cond_true hx (ih y _ k Q a w hc.1 hk h (hg.2 0) hQ).1
        | false => exact wp_cond_false hx (ih z _ k Q a w hc.2 hk h (hg.2 0) hQ).1
      · cases h
    | block id x =>
      refine ⟨?_, by simp⟩
      simp only [codeOk] at hc
      refine wp_block (ih x s _ _ a w hc (fun e s' he => ?_) h hs (fun e s' he a' w' hs' => ?_)).1
      · cases e with
        | normal => exact hk _ _ he
        | exit j =>
          simp only at he
          cases hj : Nat.beq j id with
          | true => rw [hj] at he; exact hk _ _ he
          | false => rw [hj] at he; exact hk _ _ he
        | ret => exact hk _ _ he
      · cases e with
        | normal => exact hQ _ _ he a' w' hs'
        | exit j =>
          simp only at he
          simp only [exOf, Exit.inBlock]
          cases hj : Nat.beq j id with
          | true =>
            rw [hj] at he
            rw [if_pos (Nat.eq_of_beq_eq_true hj)]
            exact hQ _ _ he a' w' hs'
          | false =>
            rw [hj] at he
            rw [if_neg (Nat.ne_of_beq_eq_false hj)]
            exact hQ _ _ he a' w' hs'
        | ret => exact hQ _ _ he a' w' hs'
    | loop x =>
      simp only [codeOk] at hc
      have hro : Code.rounds E.P x Q (n + 1) a w := by
        rw [rounds_succ]
        refine (ih x s _ _ a w hc (fun e s' he => ?_) h hs (fun e s' he a' w' hs' => ?_)).1
        · cases e with
          | normal => exact codeK_ok n (.loop x) s' k hk he
          | exit id => exact hk _ _ he
          | ret => exact hk _ _ he
        · cases e with
          | normal => exact (ih (.loop x) s' k Q a' w' hc hk he hs' hQ).2 x rfl
          | exit id => exact hQ _ _ he a' w' hs'
          | ret => exact hQ _ _ he a' w' hs'
      exact ⟨wp_loop_rounds (n + 1) hro, fun b hb => by cases hb; exact hro⟩
    | exit id => exact ⟨wp_exit (hQ _ _ h _ _ hs), by simp⟩
    | scope x =>
      refine ⟨?_, by simp⟩
      simp only [codeOk] at hc
      refine wp_scope_straight (ih x s k _ a w hc hk h hs (fun e s' he a' w' hs' => ?_)).1
      cases e <;> exact hQ _ _ he a' w' hs'
    | label l => exact ⟨wp_label (hQ _ _ h _ _ hs), by simp⟩
    | ret => exact ⟨wp_ret (hQ _ _ h _ _ hs), by simp⟩
    | _ => simp [codeK] at h

/-! ### Functions -/
def resSem (tmps : Array Value) : ResultVar → Sem Value
  | .tmp t => pure (tmps.getD t undef)
  | .cell x t => do loadVar t (← asAddr (tmps.getD x undef))
theorem results_eq (fn : Func) (tmps : Array Value) : results fn tmps = (do let vs ← fn.results.mapM (resSem tmps); pure (if h : vs.size = 1 then vs[0] else .tuple vs)) := rfl
theorem res_run {P : Program} {D : List Deferred} {μ0 : Mu} {s : St} {B : Nat} {w0 w : World} {a : Act} {μ : Mu} (hs : SimR D μ0 μ B w0 s a w) :
    ∀ (l : List ResultVar) (vs : List Value) (g : Bool), resAll P s l = some (vs, g) → g = true →
      ∃ cs, (l.mapM (resSem a.tmps)).run P w = .ok cs w ∧ VRL μ vs cs
  | [], vs, g, h, hg => by
    simp only [resAll, Option.some.injEq, Prod.mk.injEq] at h
    obtain ⟨rfl, _⟩ := h
    exact ⟨[], rfl, VRL.nil⟩
  | x :: l, vs, g, h, hg => by
    simp only [resAll] at h
    cases hx : resD P s x with
    | none => rw [hx] at h; cases h
    | some p =>
      obtain ⟨v, g1⟩ := p
      rw [hx] at h
      simp only at h
      cases hl : resAll P s l with
      | none => rw [hl] at h; cases h
      | some q =>
        obtain ⟨vs', g2⟩ := q
        rw [hl] at h
        simp only [Option.some.injEq, Prod.mk.injEq] at h
        obtain ⟨rfl, rfl⟩ := h
        simp only [Bool.and_eq_true] at hg
        obtain ⟨cs, hcs, hvr⟩ := res_run hs l vs' g2 hl hg.2
        have one : ∃ c, (resSem a.tmps x).run P w = .ok c w ∧ VR μ v c := by
          cases x with
          | tmp t =>
            simp only [resD, Option.some.injEq] at hx
            have h1 := (hs.tmps.getD t).1 (by rw [hx]; exact hg.1)
            rw [hx] at h1
            exact ⟨_, rfl, h1⟩
          | cell x t =>
            simp only [resD] at hx
            cases hld : loadD P (fun _ => true) s.heap t (s.tmps.getD x (undef, false)).1 with
            | none => rw [hld] at hx; cases hx
            | some u =>
              rw [hld] at hx
              simp only [Option.some.injEq, Prod.mk.injEq] at hx
              obtain ⟨rfl, hgx⟩ := hx
              have h1 := (hs.tmps.getD x).1 (by rw [hgx]; exact hg.1)
              obtain ⟨c, hc, hv⟩ := load_run (w := w) hs.heap h1 hld
              refine ⟨c, ?_, hv⟩
              unfold loadD at hld
              split at hld
              · rename_i b o heq
                rw [heq] at h1
                obtain ⟨b', hb', _⟩ := h1.ptr_inv
                rw [hb'] at hc
                simp only [resSem, hb']
                simpa [Instr.loadAt, Instr.sureAddr, asAddr] using hc
              · rename_i k o sp heq
                rw [heq] at h1
                generalize hax : a.tmps.getD x undef = y at *
                cases h1 with
                | ptrF _ _ l c b o' hrel =>
                  simp only [resSem, hax]
                  simpa [Instr.loadAt, Instr.sureAddr, asAddr] using hc
              · cases hld
        obtain ⟨c, hc, hv⟩ := one
        refine ⟨c :: cs, ?_, VRL.cons hv hvr⟩
        rw [List.mapM_cons, Sem.run_bind, hc, Result.andThen_ok, Sem.run_bind, hcs, Result.andThen_ok]
        rfl

theorem oneOr_VR {μ : Mu} {vs cs : List Value} (h : VRL μ vs cs) : VR μ (oneOr vs) (if h : cs.toArray.size = 1 then cs.toArray[0] else .tuple cs.toArray) := by
  match vs, cs, h with
  | [], [], h => exact VR.of_tuple h
  | [v], [c], h => exact h.head
  | v :: v' :: r, c :: c' :: r', h =>
    simp only [oneOr, List.size_toArray, List.length_cons]
    rw [dif_neg (by omega)]
    exact VR.of_tuple h
  | [], _ :: _, h => exact absurd h.1 (by simp)
  | [_], [], h => exact absurd h.1 (by simp)
  | [_], _ :: _ :: _, h => exact absurd h.1 (by simp)
  | _ :: _ :: _, [], h => exact absurd h.1 (by simp)
  | _ :: _ :: _, [_], h => exact absurd h.1 (by simp)

def hasBody (P : Program) (f : FuncId) : Bool :=
  match P.funcs[f]? with
  | some fn => fn.body.isSome && !(fn.name == "runtime.NumGoroutine")
  | none => false
def OrcOk (P : Program) (orc : Orc) : Prop :=
  ∀ f g, orc f = some g → hasBody P f = true ∧ ∀ args v k, g args = some (v, k) → k = true → ∀ μ cargs w, VRL μ args cargs → FrnIn w →
    Calls P f cargs.toArray w fun e w' => ∃ v', e = .returned v' ∧ VR μ v v' ∧ Below w.heap.size w w'
/-- contracts of functions that look into what came in, or leave new memory -/
def ConOk (P : Program) : Prop :=
  ∀ f g, Frn.con f = some g → hasBody P f = true ∧ ∀ args h v rows, g args h = some (v, rows, true) → ∀ μ cargs w B, VRL μ args cargs → HeapR μ h w B → B ≤ w.heap.size →
    Calls P f cargs.toArray w fun e w' => ∃ v' μ', e = .returned v' ∧ Sub μ μ' ∧ VR μ' v v' ∧ HeapR μ' (h ++ rows.map some) w' B ∧ Below B w w'

theorem enters {P : Program} {f : FuncId} {fn : Func} {c : Code} (hf : P.funcs[f]? = some fn) (hb : fn.body = some c) (hn : (fn.name == "runtime.NumGoroutine") = false) (args : Array Value) (w : World) :
    (callFunc f args).run P w = .ok (.enter f args) w := by
  have h1 : fn.name ≠ "runtime.NumGoroutine" := by simpa using hn
  simp [callFunc, hf, h1, hb]

theorem body_enters {P : Program} {f : FuncId} (h : hasBody P f = true) (args : Array Value) (w : World) : (callFunc f args).run P w = .ok (.enter f args) w := by
  unfold hasBody at h
  cases h1 : P.funcs[f]? with
  | none => rw [h1] at h; cases h
  | some fn =>
    rw [h1] at h
    simp only [Bool.and_eq_true, Bool.not_eq_true'] at h
    obtain ⟨c, hc⟩ := Option.isSome_iff_exists.1 h.1
    exact enters h1 hc h.2 args w

theorem fun_goes {P : Program} {ext orc : Orc} {us : List FuncId} {cf : Nat} (hm : P.follows .mixedOrders = true) (hus : us.all (funcOk P) = true) (hext : ExtOk P ext) (horc : OrcOk P orc) (hcon : ConOk P) : ∀ d, EnvOk ⟨P, ext, funD P ext orc us cf d, false, false⟩ := by
  intro d
  have huse : ∀ f, us.any (Nat.beq f) = true → ∃ fn c, P.funcs[f]? = some fn ∧ fn.body = some c ∧ codeOk c = true ∧ (fn.name == "runtime.NumGoroutine") = false := by
    intro f hf
    obtain ⟨g, hg, hgf⟩ := List.any_eq_true.1 hf
    have := Nat.eq_of_beq_eq_true hgf
    subst this
    have := List.all_eq_true.1 hus f hg
    unfold funcOk at this
    cases h1 : P.funcs[f]? with
    | none => rw [h1] at this; cases this
    | some fn =>
      rw [h1] at this
      simp only at this
      cases h2 : fn.body with
      | none => rw [h2] at this; cases this
      | some c =>
        rw [h2] at this
        simp only [Bool.and_eq_true, Bool.not_eq_true'] at this
        exact ⟨fn, c, rfl, h2, this.1, this.2⟩
  induction d with
  | zero => exact ⟨fun e => (by cases e), hext.two, fun f args h v h' k e => (by cases e), fun f args h r e => (by cases e)⟩
  | succ d ih =>
    refine ⟨fun e => (by cases e), hext.two, fun f args h v h' k hr hk μ cargs w B ha hh hB => ?_, fun f args h r hr cargs w => ?_⟩
    · simp only [funD] at hr
      cases ho : orc f with
      | some g =>
        rw [ho] at hr
        simp only at hr
        cases hg : g args with
        | none => rw [hg] at hr; cases hr
        | some p =>
          obtain ⟨v1, k1⟩ := p
          rw [hg] at hr
          simp only [Option.some.injEq, Prod.mk.injEq] at hr
          obtain ⟨rfl, rfl, rfl⟩ := hr
          refine ((horc f g ho).2 args v1 k1 hg hk μ cargs w ha (hh.frn hB)).mono fun e w' hx => ?_
          obtain ⟨v', he, hv, hb⟩ := hx
          exact ⟨v', μ, he, Sub.refl μ, hv, hh.keep hB hb, hb.mono hB⟩
      | none =>
        rw [ho] at hr
        simp only at hr
        cases hu : us.any (Nat.beq f) with
        | false =>
          rw [hu] at hr
          simp only [cond_false] at hr
          cases hc : Frn.con f with
          | none => rw [hc] at hr; cases hr
          | some g =>
            rw [hc] at hr
            simp only at hr
            cases hg : g args h with
            | none => rw [hg] at hr; cases hr
            | some p =>
              obtain ⟨v1, rows, k1⟩ := p
              rw [hg] at hr
              simp only [Option.some.injEq, Prod.mk.injEq] at hr
              obtain ⟨rfl, rfl, rfl⟩ := hr
              subst hk
              exact (hcon f g hc).2 args h v1 rows hg μ cargs w B ha hh hB
        | true =>
          rw [hu] at hr
          obtain ⟨fn, c, h1, h2, h3, h4⟩ := huse f hu
          simp only [cond_true, h1, h2] at hr
          refine calls_of_wp h1 h2 ?_
          have fin : ∀ s a' w', Sim [] μ B w s a' w' → ∀ vs g, resAll P s fn.results.toList = some (vs, g) → (oneOr vs, s.heap, g && s.ok) = (v, h', k) →
              a'.defers = [] ∧ ∃ u, (results fn a'.tmps).run P w' = .ok u w' ∧ ∃ v' μ', Ending.returned u = .returned v' ∧ Sub μ μ' ∧ VR μ' v v' ∧ HeapR μ' h' w' B ∧ Below B w w' := by
            intro s a' w' hs vs g hres heq
            simp only [Prod.mk.injEq] at heq
            obtain ⟨rfl, rfl, hkk⟩ := heq
            rw [hk] at hkk
            simp only [Bool.and_eq_true] at hkk
            obtain ⟨μ', q⟩ := hs
            obtain ⟨cs, hcs, hvr⟩ := res_run (P := P) q fn.results.toList vs g hres hkk.1
            refine ⟨q.defers, _, ?_, _, μ', rfl, q.sub, oneOr_VR hvr, q.heap, q.below⟩
            rw [results_eq, Array.mapM_eq_mapM_toList, Sem.run_bind, Sem.run_map, hcs]
            rfl
          refine (code_goes (D := []) (B := B) (w0 := w) (μ0 := μ) ih hm (r := (v, h', k)) cf c (startS fn args h) (finK P fn) _ _ w h3 (fun e s he => ?_) hr ⟨μ, ?_, hh, Below.refl B w, hB, rfl, Sub.refl μ⟩ (fun e s he a' w' hs => ?_)).1
          · cases e <;> simp only [finK] at he
            · split at he
              · simp only [Option.some.injEq, Prod.mk.injEq] at he
                rw [hk] at he
                have := he.2.2
                simp only [Bool.and_eq_true] at this
                exact this.2
              · cases he
            · cases he
            · split at he
              · simp only [Option.some.injEq, Prod.mk.injEq] at he
                rw [hk] at he
                have := he.2.2
                simp only [Bool.and_eq_true] at this
                exact this.2
              · cases he
          · constructor
            · simp [startS, ha.1]
            · intro i p q hp hq
              simp only [startS] at hp
              by_cases hi : i < args.length
              · rw [List.getElem?_append_left (by simpa using hi), List.getElem?_map] at hp
                rw [Array.getElem?_append, if_pos (by rw [List.size_toArray, ← ha.1]; exact hi)] at hq
                obtain ⟨x, hx, rfl⟩ := Option.map_eq_some_iff.1 hp
                exact ⟨fun _ => ha.2 i x q hx (by simpa using hq), fun e => (by cases e)⟩
              · rw [List.getElem?_append_right (by simp; omega)] at hp
                rw [Array.getElem?_append, if_neg (by rw [List.size_toArray, ← ha.1]; exact hi)] at hq
                rw [List.getElem?_replicate] at hp
                rw [Array.getElem?_replicate] at hq
                split at hp
                · cases hp
                  split at hq
                  · cases hq; exact SlotR.undef μ
                  · cases hq
                · cases hp
          · cases e with
            | normal =>
              simp only [finK] at he
              split at he
              · rename_i vs g hres
                simp only [Option.some.injEq] at he
                exact fin s a' w' hs vs g hres he
              · cases he
            | exit id => simp [finK] at he
            | ret =>
              simp only [finK] at he
              split at he
              · rename_i vs g hres
                simp only [Option.some.injEq] at he
                exact fin s a' w' hs vs g hres he
              · cases he
    · simp only [funD] at hr
      cases ho : orc f with
      | some g =>
        exact body_enters (horc f g ho).1 cargs w
      | none =>
        rw [ho] at hr
        simp only at hr
        cases hu : us.any (Nat.beq f) with
        | false =>
          rw [hu] at hr
          simp only [cond_false] at hr
          cases hc : Frn.con f with
          | none => rw [hc] at hr; cases hr
          | some g => exact body_enters (hcon f g hc).1 cargs w
        | true =>
          obtain ⟨fn, c, h1, h2, h3, h4⟩ := huse f hu
          exact enters h1 h2 h4 cargs w
theorem start_sim {μ : Mu} {B : Nat} {w : World} {fn : Func} {args cargs : List Value} {h : Heap} (ha : VRL μ args cargs) (hh : HeapR μ h w B) (hB : B ≤ w.heap.size) :
    SimR [] μ μ B w (startS fn args h) { tmps := cargs.toArray ++ Array.replicate (fn.ntmps - cargs.toArray.size) undef, defers := [] } w := by
  refine ⟨?_, hh, Below.refl B w, hB, rfl, Sub.refl μ⟩
  constructor
  · simp [startS, ha.1]
  · intro i p q hp hq
    simp only [startS] at hp
    by_cases hi : i < args.length
    · rw [List.getElem?_append_left (by simpa using hi), List.getElem?_map] at hp
      rw [Array.getElem?_append, if_pos (by rw [List.size_toArray, ← ha.1]; exact hi)] at hq
      obtain ⟨x, hx, rfl⟩ := Option.map_eq_some_iff.1 hp
      exact ⟨fun _ => ha.2 i x q hx (by simpa using hq), fun e => (by cases e)⟩
    · rw [List.getElem?_append_right (by simp; omega)] at hp
      rw [Array.getElem?_append, if_neg (by rw [List.size_toArray, ← ha.1]; exact hi)] at hq
      rw [List.getElem?_replicate] at hp
      rw [Array.getElem?_replicate] at hq
      split at hp
      · cases hp
        split at hq
        · cases hq; exact SlotR.undef μ
        · cases hq
      · cases hp
end
end Ev
namespace Ev
noncomputable section
open Go Go.RowKit
variable [Frn]

/-! ### From an evaluation to a call -/
/-- a call with plain arguments that answers a plain value -/
theorem plain_call {E : Env} (hE : EnvOk E) {f : FuncId} {args : List Value} {v : Value} {h' : Heap} (he : E.call f args [] = some (v, h', true)) (hp : args.all plainB = true) (hv : plainB v = true)
    {μ : Mu} {cargs : List Value} (ha : VRL μ args cargs) (w : World) (hw : FrnIn w) :
    Calls E.P f cargs.toArray w fun e w' => ∃ v', e = .returned v' ∧ VR μ v v' ∧ Below w.heap.size w w' := by
  refine (hE.call f args [] v h' true he rfl Mu.nil cargs w w.heap.size (plain_VRL ha hp) (HeapR.start hw) (Nat.le_refl _)).mono fun e w' hx => ?_
  obtain ⟨v', μ', h1, _, h3, _, h5⟩ := hx
  exact ⟨v', h1, plain_VR h3 hv, h5⟩

/-- a law that answers true -/
theorem law_call {E : Env} (hE : EnvOk E) {f : FuncId} {args : List Value} (h : ∃ h', E.call f args [] = some (.bool true, h', true)) {μ : Mu} {cargs : List Value} (ha : VRL μ args cargs) (hp : args.all plainB = true) (w : World) (hw : FrnIn w) :
    Calls E.P f cargs.toArray w fun e w' => e = .returned (.bool true) ∧ Below w.heap.size w w' := by
  obtain ⟨h', he⟩ := h
  refine (plain_call hE he hp rfl ha w hw).mono fun e w' hx => ?_
  obtain ⟨v', rfl, hv, hb⟩ := hx
  rw [hv.bool_inv]
  exact ⟨rfl, hb⟩

/-- the same, of a program -/
theorem fun_call {P : Program} {ext orc : Orc} {us : List FuncId} {cf d : Nat} (hm : P.follows .mixedOrders = true) (hus : us.all (funcOk P) = true) (hext : ExtOk P ext) (horc : OrcOk P orc) (hcon : ConOk P)
    {f : FuncId} {args : List Value} {v : Value} {h' : Heap} (he : funD P ext orc us cf d f args [] = some (v, h', true)) (hp : args.all plainB = true) (hv : plainB v = true)
    {μ : Mu} {cargs : List Value} (ha : VRL μ args cargs) (w : World) (hw : FrnIn w) :
    Calls P f cargs.toArray w fun e w' => ∃ v', e = .returned v' ∧ VR μ v v' ∧ Below w.heap.size w w' :=
  plain_call (E := ⟨P, ext, funD P ext orc us cf d, false, false⟩) (fun_goes hm hus hext horc hcon d) he hp hv ha w hw
theorem fun_law {P : Program} {ext orc : Orc} {us : List FuncId} {cf d : Nat} (hm : P.follows .mixedOrders = true) (hus : us.all (funcOk P) = true) (hext : ExtOk P ext) (horc : OrcOk P orc) (hcon : ConOk P)
    {f : FuncId} {args : List Value} (he : ∃ h', funD P ext orc us cf d f args [] = some (.bool true, h', true)) (hp : args.all plainB = true) {μ : Mu} {cargs : List Value} (ha : VRL μ args cargs) (w : World) (hw : FrnIn w) :
    Calls P f cargs.toArray w fun e w' => e = .returned (.bool true) ∧ Below w.heap.size w w' :=
  law_call (E := ⟨P, ext, funD P ext orc us cf d, false, false⟩) (fun_goes hm hus hext horc hcon d) he ha hp w hw

/-! ### Arrays of floats that come in -/
def fl (k : FloatKind) (l : List Nat) : List Value := l.map fun b => .float k b
theorem fl_plain (k : FloatKind) (l : List Nat) : plainB (.agg (fl k l).toArray) = true := by
  simp [plainB, fl, flatB, List.all_eq_true]
theorem fl_VR {μ : Mu} (k : FloatKind) (l : List Nat) : VR μ (.agg (fl k (l.map (cn k))).toArray) (.agg (fl k l).toArray) := by
  refine VR.of_agg ⟨by simp [fl], fun i x y hx hy => ?_⟩
  simp only [fl, List.map_map, List.getElem?_map] at hx hy
  cases hb : l[i]? with
  | none => rw [hb] at hx; cases hx
  | some b =>
    rw [hb] at hx hy
    cases hx; cases hy
    exact .float k _ b rfl

theorem cells_floats {k : FloatKind} {cs : Array Value} (h : ∀ (i : Nat) v, cs[i]? = some v → ∃ b, v = .float k b) : ∃ l : List Nat, cs = (fl k l).toArray ∧ l.length = cs.size := by
  have key : ∀ l : List Value, (∀ v ∈ l, ∃ b, v = .float k b) → ∃ m : List Nat, l = fl k m := by
    intro l
    induction l with
    | nil => exact fun _ => ⟨[], rfl⟩
    | cons v l ih =>
      intro h
      obtain ⟨b, rfl⟩ := h v List.mem_cons_self
      obtain ⟨m, rfl⟩ := ih (fun u hu => h u (List.mem_cons_of_mem _ hu))
      exact ⟨b :: m, rfl⟩
  obtain ⟨m, hm⟩ := key cs.toList (fun v hv => by
    obtain ⟨i, hi⟩ := List.mem_iff_getElem?.1 hv
    exact h i v (by simpa using hi))
  refine ⟨m, by rw [← hm], ?_⟩
  have := congrArg List.length hm
  simpa [fl] using this.symm

theorem open_floats {P : Program} {w : World} {r : Reach} {b0 : Nat} {t e : TypeId} {k : FloatKind} {n : Nat} {v : Value} (ht : P.underlying t = some (.array n e)) (he : P.underlying e = some (.float k)) (hc : P.cellsOf t = n)
    (hts : P.cellTypes P.depth t = some (List.replicate n e)) (hv : Value.okWide P w r b0 t v) : ∃ l : List Nat, v = .agg (fl k l).toArray ∧ l.length = n := by
  simp only [Value.okWide, ht] at hv
  obtain ⟨cs, rfl, hs, ts, h1, h2, h3⟩ := hv
  rw [hts] at h1; cases h1
  obtain ⟨l, hl, hlen⟩ := cells_floats (k := k) (cs := cs) fun i u hu => by
    obtain ⟨u', hu', hok⟩ := h3 i u hu
    rw [List.getElem?_replicate] at hu'
    split at hu'
    · cases hu'
      simp only [Cell.okWide, he] at hok
      cases u <;> simp_all [Cell.ok]
    · cases hu'
  exact ⟨l, by rw [hl], by rw [hlen, hs, hc]⟩
end
end Ev
namespace Ev
noncomputable section
open Go Go.RowKit Ieee
variable [Frn]

/-! ### Lists of contracts -/
abbrev Sig := List Value → Option (Value × Bool)
def seek (f : Nat) : List (Nat × Sig) → Option Sig
  | [] => none
  | p :: r => bif Nat.beq f p.1 then some p.2 else seek f r
theorem seek_mem {f : Nat} {g : Sig} : ∀ {l : List (Nat × Sig)}, seek f l = some g → (f, g) ∈ l
  | [], h => by cases h
  | p :: r, h => by
    simp only [seek] at h
    cases hb : Nat.beq f p.1 with
    | true =>
      rw [hb] at h
      simp only [cond_true, Option.some.injEq] at h
      rw [← h, Nat.eq_of_beq_eq_true hb]
      exact List.mem_cons_self
    | false => rw [hb] at h; exact List.mem_cons_of_mem _ (seek_mem h)

def ExtOne (P : Program) (f : Nat) (g : Sig) : Prop :=
  ∀ args v k, g args = some (v, k) → k = true → ∀ μ cargs, VRL μ args cargs → ∀ w,
    ∃ v', ((callFunc f cargs.toArray).run P w = .ok (.value v') w ∨ (callFunc f cargs.toArray).run P w = .ok (.value v') { w with drawn := w.drawn + 1 }) ∧ VR μ v v'
def OrcOne (P : Program) (f : Nat) (g : Sig) : Prop :=
  hasBody P f = true ∧ ∀ args v k, g args = some (v, k) → k = true → ∀ μ cargs w, VRL μ args cargs → FrnIn w →
    Calls P f cargs.toArray w fun e w' => ∃ v', e = .returned v' ∧ VR μ v v' ∧ Below w.heap.size w w'
theorem ext_list {P : Program} {l : List (Nat × Sig)} (h : ∀ p ∈ l, ExtOne P p.1 p.2) : ExtOk P (fun f => seek f l) := fun f g hf => h (f, g) (seek_mem hf)
theorem orc_list {P : Program} {l : List (Nat × Sig)} (h : ∀ p ∈ l, OrcOne P p.1 p.2) : OrcOk P (fun f => seek f l) := fun f g hf => h (f, g) (seek_mem hf)
theorem all_nil {Q : Nat × Sig → Prop} : ∀ p ∈ ([] : List (Nat × Sig)), Q p := fun _ h => by cases h
theorem all_cons {Q : Nat × Sig → Prop} {x : Nat × Sig} {l : List (Nat × Sig)} (h : Q x) (k : ∀ p ∈ l, Q p) : ∀ p ∈ x :: l, Q p := fun p hp => by
  rcases List.mem_cons.1 hp with rfl | hp
  · exact h
  · exact k p hp

/-- a contract out of an evaluation -/
theorem orc_oneF {P : Program} {l0 lx : List (Nat × Sig)} {us : List FuncId} {cf d : Nat} {f : Nat} {g : Sig} (hm : P.follows .mixedOrders = true) (hus : us.all (funcOk P) = true) (hext : ∀ p ∈ lx, ExtOne P p.1 p.2) (horc : ∀ p ∈ l0, OrcOne P p.1 p.2) (hcon : ConOk P) (hb : hasBody P f = true)
    (h : ∀ args v k, g args = some (v, k) → k = true → (∃ μ cargs, VRL μ args cargs) → args.all plainB = true ∧ plainB v = true ∧ ∃ h', funD P (fun f => seek f lx) (fun f => seek f l0) us cf d f args [] = some (v, h', true)) : OrcOne P f g := by
  refine ⟨hb, fun args v k he hk μ cargs w ha hw => ?_⟩
  obtain ⟨h1, h2, h', h3⟩ := h args v k he hk ⟨μ, cargs, ha⟩
  exact fun_call hm hus (ext_list hext) (orc_list horc) hcon h3 h1 h2 ha w hw

/-! ### math's bodyless functions -/
structure IsExt (P : Program) (f : Nat) (e : Array Value → Sem Value) : Prop where
  ex : ∃ fn, P.funcs[f]? = some fn ∧ (fn.name == "runtime.NumGoroutine") = false ∧ fn.body.isNone = true ∧ Extern.findNext fn = none ∧ Extern.find fn = some e

def f32bitsO : Sig
  | [.float .f32 a] => some (.int .u32 a, !isN .f32 a)
  | _ => none
def f64bitsO : Sig
  | [.float .f64 a] => some (.int .u64 a, !isN .f64 a)
  | _ => none
def f32fromO : Sig
  | [.int .u32 n] => some (.float .f32 (cn .f32 n.toNat), true)
  | _ => none
def f64fromO : Sig
  | [.int .u64 n] => some (.float .f64 (cn .f64 n.toNat), true)
  | _ => none
def sqrtO : Sig
  | [.float .f64 a] => some (.float .f64 (fsqrt a), true)
  | _ => none

theorem one_arg {μ : Mu} {x : Value} {cargs : List Value} (h : VRL μ [x] cargs) : ∃ y, cargs = [y] ∧ VR μ x y := by
  match cargs, h with
  | [y], h => exact ⟨y, rfl, h.head⟩
  | [], h => exact absurd h.1 (by simp)
  | _ :: _ :: _, h => exact absurd h.1 (by simp)

theorem ext_run {P : Program} {f : Nat} {e : Array Value → Sem Value} (hf : IsExt P f e) {args : Array Value} {v : Value} {w w' : World} (h : (e args).run P w = .ok v w') : (callFunc f args).run P w = .ok (.value v) w' := by
  obtain ⟨fn, h1, h2, h3, h4, h5⟩ := hf.ex
  rw [run_callFunc_extern h1 h2 h3 h4 h5, h]; rfl

theorem f32bits_one {P : Program} {f : Nat} (hf : IsExt P f Extern.MathFloatBits.float32bits) : ExtOne P f f32bitsO := by
  intro args v k he hk μ cargs ha w
  unfold f32bitsO at he
  split at he
  · rename_i a
    simp only [Option.some.injEq, Prod.mk.injEq] at he
    obtain ⟨rfl, rfl⟩ := he
    obtain ⟨y, rfl, hy⟩ := one_arg ha
    obtain ⟨x, rfl, rfl⟩ := hy.float_inv
    rw [isN_cn] at hk
    rw [cn_of_not (by simpa using hk)]
    exact ⟨.int .u32 x, .inl (ext_run hf rfl), .int _ _⟩
  · cases he
theorem f64bits_one {P : Program} {f : Nat} (hf : IsExt P f Extern.MathFloatBits.float64bits) : ExtOne P f f64bitsO := by
  intro args v k he hk μ cargs ha w
  unfold f64bitsO at he
  split at he
  · rename_i a
    simp only [Option.some.injEq, Prod.mk.injEq] at he
    obtain ⟨rfl, rfl⟩ := he
    obtain ⟨y, rfl, hy⟩ := one_arg ha
    obtain ⟨x, rfl, rfl⟩ := hy.float_inv
    rw [isN_cn] at hk
    rw [cn_of_not (by simpa using hk)]
    exact ⟨.int .u64 x, .inl (ext_run hf rfl), .int _ _⟩
  · cases he
theorem f32from_one {P : Program} {f : Nat} (hf : IsExt P f Extern.MathFloatBits.float32frombits) : ExtOne P f f32fromO := by
  intro args v k he hk μ cargs ha w
  unfold f32fromO at he
  split at he
  · rename_i n
    simp only [Option.some.injEq, Prod.mk.injEq] at he
    obtain ⟨rfl, rfl⟩ := he
    obtain ⟨y, rfl, hy⟩ := one_arg ha
    rw [hy.int_inv]
    exact ⟨.float .f32 n.toNat, .inl (ext_run hf rfl), .float _ _ _ rfl⟩
  · cases he
theorem f64from_one {P : Program} {f : Nat} (hf : IsExt P f Extern.MathFloatBits.float64frombits) : ExtOne P f f64fromO := by
  intro args v k he hk μ cargs ha w
  unfold f64fromO at he
  split at he
  · rename_i n
    simp only [Option.some.injEq, Prod.mk.injEq] at he
    obtain ⟨rfl, rfl⟩ := he
    obtain ⟨y, rfl, hy⟩ := one_arg ha
    rw [hy.int_inv]
    exact ⟨.float .f64 n.toNat, .inl (ext_run hf rfl), .float _ _ _ rfl⟩
  · cases he
theorem sqrt_one {P : Program} {f : Nat} (hf : IsExt P f Extern.MathSqrt.sqrt) : ExtOne P f sqrtO := by
  intro args v k he hk μ cargs ha w
  unfold sqrtO at he
  split at he
  · rename_i a
    simp only [Option.some.injEq, Prod.mk.injEq] at he
    obtain ⟨rfl, rfl⟩ := he
    obtain ⟨y, rfl, hy⟩ := one_arg ha
    obtain ⟨x, rfl, rfl⟩ := hy.float_inv
    have hs := sqrt_cn (k := .f64) (x := x)
    have hrun : Extern.MathSqrt.sqrt #[.float .f64 x] = (match FloatKind.f64.format.sqrt x with | some r => pure (.float .f64 r) | none => do pure (.float .f64 (← choose (.nanBits .f64 x x)))) := rfl
    unfold fsqrt
    rw [hs.1]
    cases hr : FloatKind.f64.format.sqrt x with
    | some r =>
      refine ⟨.float .f64 r, .inl (ext_run hf ?_), .float _ _ _ ?_⟩
      · show (Extern.MathSqrt.sqrt #[.float .f64 x]).run P w = _
        rw [hrun, hr]; rfl
      · rw [cn_of_not (hs.2 r hr)]; rfl
    | none =>
      refine ⟨.float .f64 ((Question.nanBits .f64 x x).cut (w.tape w.drawn (Question.nanBits .f64 x x))), .inr (ext_run hf ?_), .float _ _ _ ?_⟩
      · show (Extern.MathSqrt.sqrt #[.float .f64 x]).run P w = _
        rw [hrun, hr]; simp [Question.forced]
      · rw [cn_of_N (nanBits_cut .f64 x x _)]; rfl
  · cases he

theorem isN_widen (a : Nat) : isN .f64 (fcv .f32 .f64 a) = isN .f32 a := by
  unfold fcv
  cases hn : isN .f32 a with
  | true =>
    obtain ⟨s, t, e⟩ := read_N hn
    rw [e]
    exact isN_qn .f64
  | false =>
    cases e : FloatKind.f32.format.read a with
    | nan s t => rw [isN, e] at hn; cases hn
    | infinity g => exact write_cn .f64 rfl
    | number g m q => exact write_cn .f64 rfl
theorem fcv_N {a : Nat} (h : isN .f32 a = true) : fcv .f32 .f64 a = qn .f64 := by
  obtain ⟨s, t, e⟩ := read_N h
  unfold fcv
  rw [e]
theorem float_canon {μ : Mu} {k : FloatKind} {a : Nat} {y : Value} (h : VR μ (.float k a) y) : cn k a = a := by
  obtain ⟨x, _, rfl⟩ := h.float_inv
  exact cn_cn _ _
end
noncomputable section
open Go Go.RowKit
/-! ### nothing came in that is not looked into -/
theorem noCon {P : Program} : ConOk P := fun f g h => by cases h
theorem noIn (w : World) : FrnIn w := ⟨Nat.zero_le _, trivial⟩
theorem orc_one {P : Program} {l0 lx : List (Nat × Sig)} {us : List FuncId} {cf d : Nat} {f : Nat} {g : Sig} (hm : P.follows .mixedOrders = true) (hus : us.all (funcOk P) = true) (hext : ∀ p ∈ lx, ExtOne P p.1 p.2) (horc : ∀ p ∈ l0, OrcOne P p.1 p.2) (hb : hasBody P f = true)
    (h : ∀ args v k, g args = some (v, k) → k = true → (∃ μ cargs, VRL μ args cargs) → args.all plainB = true ∧ plainB v = true ∧ ∃ h', funD P (fun f => seek f lx) (fun f => seek f l0) us cf d f args [] = some (v, h', true)) : OrcOne P f g :=
  orc_oneF hm hus hext horc noCon hb h
end
end Ev
namespace Ev
noncomputable section
open Go Ieee
variable [Frn]

/-! ### How far a rounded number reaches -/
/-- the rung of a number below 2 ^ K -/
theorem nearest_rung (f : Format) (neg : Bool) (m : Nat) (e K : Int) (h0 : m ≠ 0) (hK : e + m.log2 < K) (hl : f.leastPlace + f.fractionBits < K) :
    ∃ r, f.nearest neg m e = f.word neg r ∧ r ≤ (K - f.fractionBits - f.leastPlace).toNat * f.binade + f.binade ∧ r ≤ f.infRung := by
  unfold Format.nearest
  rw [if_neg h0]
  refine ⟨_, rfl, ?_, Nat.min_le_right ..⟩
  refine Nat.le_trans (Nat.min_le_left ..) ?_
  generalize hlast : max (e + (m.log2 : Int) - f.fractionBits) f.leastPlace = last
  have hlast' : last ≤ K - 1 - f.fractionBits := by omega
  have hkept : Toward.even.cut neg (m <<< (e - last).toNat) (last - e).toNat ≤ 2 * f.binade := by
    have hm : m < 2 ^ (m.log2 + 1) := Nat.lt_log2_self
    have cutle : ∀ (n d : Nat), Toward.even.cut neg n d ≤ n / 2 ^ d + 1 := by
      intro n d
      unfold Toward.cut
      simp only
      by_cases hd : d ≤ n.log2 + 2
      · rw [Nat.min_eq_left hd, Nat.one_shiftLeft]
        have : ∀ b : Bool, b.toNat ≤ 1 := fun b => by cases b <;> decide
        exact Nat.add_le_add_left (this _) _
      · rw [Nat.min_eq_right (by omega), Nat.one_shiftLeft]
        have hn : n / 2 ^ (n.log2 + 2) = 0 := Nat.div_eq_of_lt (Nat.lt_of_lt_of_le Nat.lt_log2_self (Nat.pow_le_pow_right (by decide) (by omega)))
        have : ∀ b : Bool, b.toNat ≤ 1 := fun b => by cases b <;> decide
        rw [hn]
        exact Nat.le_trans (Nat.add_le_add_left (this _) _) (by rw [Nat.zero_add]; exact Nat.succ_le_succ (Nat.zero_le _))
    refine Nat.le_trans (cutle _ _) ?_
    have hb : f.binade = 2 ^ f.fractionBits := rfl
    rcases Int.le_total last e with hle | hle
    · have e1 : (last - e).toNat = 0 := by omega
      rw [e1, Nat.pow_zero, Nat.div_one, Nat.shiftLeft_eq]
      have hlt : m * 2 ^ (e - last).toNat < 2 ^ (f.fractionBits + 1) := by
        calc m * 2 ^ (e - last).toNat < 2 ^ (m.log2 + 1) * 2 ^ (e - last).toNat := Nat.mul_lt_mul_of_pos_right hm (Nat.two_pow_pos _)
          _ = 2 ^ (m.log2 + 1 + (e - last).toNat) := by rw [← Nat.pow_add]
          _ ≤ 2 ^ (f.fractionBits + 1) := Nat.pow_le_pow_right (by decide) (by omega)
      rw [hb, Nat.pow_succ] at *
      omega
    · have e1 : (e - last).toNat = 0 := by omega
      rw [e1, Nat.shiftLeft_zero]
      have hlt : m / 2 ^ (last - e).toNat < 2 ^ (f.fractionBits + 1) := by
        refine Nat.div_lt_of_lt_mul ?_
        calc m < 2 ^ (m.log2 + 1) := hm
          _ ≤ 2 ^ ((last - e).toNat + (f.fractionBits + 1)) := Nat.pow_le_pow_right (by decide) (by omega)
          _ = _ := by rw [Nat.pow_add]
      rw [hb, Nat.pow_succ] at *
      omega
  have h1 : (last - f.leastPlace).toNat ≤ (K - f.fractionBits - f.leastPlace).toNat - 1 := by omega
  have h2 : 1 ≤ (K - f.fractionBits - f.leastPlace).toNat := by omega
  calc (last - f.leastPlace).toNat * f.binade + Toward.even.cut neg (m <<< (e - last).toNat) (last - e).toNat
      ≤ ((K - f.fractionBits - f.leastPlace).toNat - 1) * f.binade + 2 * f.binade := Nat.add_le_add (Nat.mul_le_mul_right _ h1) hkept
    _ = (K - f.fractionBits - f.leastPlace).toNat * f.binade + f.binade := by
      rw [← Nat.add_mul, show 2 = 1 + 1 from rfl, ← Nat.add_assoc, Nat.sub_add_cancel h2, Nat.add_mul, Nat.one_mul]

/-- what a word of a low rung stands for -/
theorem read_low (f : Format) (neg : Bool) {r R : Nat} (hr : r ≤ R * f.binade) (hi : r < f.infRung) : ∃ g m e, f.read (f.word neg r) = .number g m e ∧ (m = 0 ∨ e + m.log2 ≤ f.leastPlace + f.fractionBits + R) := by
  have hlt : r < f.signWeight := Nat.lt_trans hi f.infRung_lt
  have hpos : 0 < f.binade := Nat.two_pow_pos _
  unfold Format.read
  simp only [Format.word_mod f neg hlt]
  split
  · rename_i h
    refine ⟨_, _, _, rfl, ?_⟩
    by_cases h0 : r = 0
    · exact .inl h0
    · right
      have : r.log2 < f.fractionBits := (Nat.log2_lt h0).2 h
      omega
  · rename_i h
    refine ⟨_, _, _, rfl, .inr ?_⟩
    have hb : f.binade + r % f.binade < 2 ^ (f.fractionBits + 1) := by
      have := Nat.mod_lt r hpos
      have e : f.binade = 2 ^ f.fractionBits := rfl
      rw [Nat.pow_succ, ← e]; omega
    have h1 : (f.binade + r % f.binade).log2 < f.fractionBits + 1 := (Nat.log2_lt (by omega)).2 hb
    have h2 : r / f.binade ≤ R := Nat.div_le_of_le_mul (by rw [Nat.mul_comm]; exact hr)
    omega

theorem fcvOk_number {g : Bool} {m : Nat} {e : Int} (h : m = 0 ∨ e + m.log2 ≤ 120) : (Ieee.single.read (Ieee.single.nearest g m e)).isInfinity = false := by
  by_cases h0 : m = 0
  · subst h0
    unfold Format.nearest
    rw [if_pos rfl]
    exact word_read _ _ (by decide)
  · have h1 := h.resolve_left h0
    obtain ⟨f1, f2, f3, f4, f5⟩ := single_facts
    obtain ⟨r, e1, e2, _⟩ := nearest_rung Ieee.single g m e 121 h0 (by omega) (by rw [f3, f5]; decide)
    rw [e1]
    refine word_read _ _ (Nat.lt_of_le_of_lt e2 ?_)
    rw [f1, f2, f3, f5]
    decide

theorem rootFrom_lt (n : Nat) : ∀ (todo root : Nat), Datum.rootFrom n todo root < root + 2 ^ todo
  | 0, root => by simp [Datum.rootFrom]
  | todo + 1, root => by
    unfold Datum.rootFrom
    simp only
    split
    · have := rootFrom_lt n todo (root + 1 <<< todo)
      rw [Nat.one_shiftLeft] at this ⊢
      rw [Nat.pow_succ]
      omega
    · have := rootFrom_lt n todo root
      rw [Nat.pow_succ]
      omega

/-- the square root of a narrow number is met by the narrow format -/
theorem sqrt_narrow (a : Nat) : fcvOk .f64 .f32 (fsqrt (fcv .f32 .f64 a)) = true := by
  obtain ⟨d1, d2, d3, d4, d5⟩ := double_facts
  have hN : fcvOk .f64 .f32 (qn .f64) = true := by decide +kernel
  have hsq : ∀ b, fsqrt b = o2 .f64 ((Ieee.double.read b).root 54 |>.map Ieee.double.write) := fun b => rfl
  -- a number that is written wide, and read again
  have hw : ∀ g m e, (m = 0 ∨ e + (m.log2 : Int) ≤ 100) → fcvOk .f64 .f32 (Ieee.double.nearest g m e) = true := by
    intro g m e h
    have hr : ∃ g' m' e', Ieee.double.read (Ieee.double.nearest g m e) = .number g' m' e' ∧ (m' = 0 ∨ e' + (m'.log2 : Int) ≤ 120) := by
      by_cases h0 : m = 0
      · subst h0
        unfold Format.nearest
        rw [if_pos rfl]
        obtain ⟨g', m', e', h1, h2⟩ := read_low Ieee.double g (r := 0) (R := 0) (Nat.zero_le _) (by rw [d1]; decide)
        refine ⟨g', m', e', h1, h2.imp id fun h => ?_⟩
        rw [d3, d5] at h; omega
      · have h1 := h.resolve_left h0
        obtain ⟨r, e1, e2, _⟩ := nearest_rung Ieee.double g m e 101 h0 (by omega) (by rw [d3, d5]; decide)
        rw [e1]
        have hR : r ≤ 1124 * Ieee.double.binade := by
          rw [d3, d5] at e2
          refine Nat.le_trans e2 ?_
          rw [d2]; decide
        obtain ⟨g', m', e', h3, h4⟩ := read_low Ieee.double g hR (Nat.lt_of_le_of_lt hR (by rw [d1, d2]; decide))
        refine ⟨g', m', e', h3, h4.imp id fun h => ?_⟩
        rw [d3, d5] at h; omega
    obtain ⟨g', m', e', h1, h2⟩ := hr
    unfold fcvOk
    rw [show FloatKind.f64.format.read (Ieee.double.nearest g m e) = .number g' m' e' from h1]
    simp only [Bool.not_eq_true']
    exact fcvOk_number h2
  rw [hsq]
  have hfin : ∀ g m e, (m = 0 ∨ e + (m.log2 : Int) ≤ 130) → fcvOk .f64 .f32 (o2 .f64 (((Datum.number g m e).root 54).map Ieee.double.write)) = true := by
    intro g m e h
    unfold Datum.root
    simp only
    split
    · exact hw g m e (.inl (by assumption))
    · rename_i h0
      split
      · exact hN
      · have h1 := h.resolve_left h0
        refine hw false _ _ ?_
        generalize hmore : 2 * 54 - m.log2 + ((e - ((2 * 54 - m.log2 : Nat) : Int)) % 2).toNat = more
        by_cases hz : 2 * Datum.rootFrom (m <<< more) ((m <<< more).log2 / 2 + 1) 0 + ((Datum.rootFrom (m <<< more) ((m <<< more).log2 / 2 + 1) 0 * Datum.rootFrom (m <<< more) ((m <<< more).log2 / 2 + 1) 0 != m <<< more) : Bool).toNat = 0
        · exact .inl hz
        · right
          have hlog : (m <<< more).log2 = m.log2 + more := by
            rw [Nat.shiftLeft_eq]
            have a1 : 2 ^ (m.log2 + more) ≤ m * 2 ^ more := by
              rw [Nat.pow_add]; exact Nat.mul_le_mul_right _ (Nat.log2_self_le h0)
            have a2 : m * 2 ^ more < 2 ^ (m.log2 + more + 1) := by
              rw [show m.log2 + more + 1 = m.log2 + 1 + more by omega, Nat.pow_add]
              exact Nat.mul_lt_mul_of_pos_right Nat.lt_log2_self (Nat.two_pow_pos _)
            have hne : m * 2 ^ more ≠ 0 := Nat.mul_ne_zero h0 (Nat.ne_of_gt (Nat.two_pow_pos _))
            have b1 : m.log2 + more ≤ (m * 2 ^ more).log2 := (Nat.le_log2 hne).2 a1
            have b2 : (m * 2 ^ more).log2 < m.log2 + more + 1 := (Nat.log2_lt hne).2 a2
            omega
          have hroot := rootFrom_lt (m <<< more) ((m <<< more).log2 / 2 + 1) 0
          generalize Datum.rootFrom (m <<< more) ((m <<< more).log2 / 2 + 1) 0 = wh at *
          generalize hbb : ((wh * wh != m <<< more) : Bool).toNat = bb at *
          have hb1 : bb ≤ 1 := by rw [← hbb]; cases (wh * wh != m <<< more) <;> decide
          rw [Nat.zero_add, hlog] at hroot
          have hlt : 2 * wh + bb < 2 ^ ((m.log2 + more) / 2 + 2) := by
            rw [show (m.log2 + more) / 2 + 2 = (m.log2 + more) / 2 + 1 + 1 by omega, Nat.pow_succ]
            omega
          have hl2 : (2 * wh + bb).log2 < (m.log2 + more) / 2 + 2 := (Nat.log2_lt hz).2 hlt
          omega
  rcases read_single a with ⟨g, m, e, h, hm, he, he'⟩ | ⟨g, h⟩ | ⟨g, t, h⟩
  · have hf : fcv .f32 .f64 a = Ieee.double.nearest g m e := by
      unfold fcv
      rw [show FloatKind.f32.format.read a = .number g m e from h]
      rfl
    rw [hf]
    by_cases h0 : m = 0
    · subst h0
      unfold Format.nearest
      rw [if_pos rfl]
      obtain ⟨g', m', e', h1, h2⟩ := read_low Ieee.double g (r := 0) (R := 0) (Nat.zero_le _) (by rw [d1]; decide)
      rw [h1]
      refine hfin _ _ _ (h2.imp id fun h => ?_)
      rw [d3, d5] at h; omega
    · have hl : m.log2 < 24 := (Nat.log2_lt h0).2 hm
      obtain ⟨r, e1, e2, _⟩ := nearest_rung Ieee.double g m e 128 h0 (by omega) (by rw [d3, d5]; decide)
      rw [e1]
      have hR : r ≤ 1151 * Ieee.double.binade := by
        rw [d3, d5] at e2
        refine Nat.le_trans e2 ?_
        rw [d2]; decide
      obtain ⟨g', m', e', h3, h4⟩ := read_low Ieee.double g hR (Nat.lt_of_le_of_lt hR (by rw [d1, d2]; decide))
      rw [h3]
      refine hfin _ _ _ (h4.imp id fun h => ?_)
      rw [d3, d5] at h; omega
  · have hf : fcv .f32 .f64 a = Ieee.double.write (.infinity g) := by
      unfold fcv
      rw [show FloatKind.f32.format.read a = .infinity g from h]
      rfl
    rw [hf]
    cases g <;> decide +kernel
  · have hf : fcv .f32 .f64 a = qn .f64 := by
      unfold fcv
      rw [show FloatKind.f32.format.read a = .nan g t from h]
    rw [hf]
    decide +kernel
end
end Ev
namespace Ev
noncomputable section
open Go Ieee
variable [Frn]
/-- a region in its own order -/
theorem regionD_seq {P : Program} {ext : Orc} {call : CallD} {ops : List Oper} {s : St} : regionD ⟨P, ext, call, false, false⟩ false ops s =
    (bif hasNew ops then runD ⟨P, ext, call, false, false⟩ false ops (masks ops []) s.heap.length 0 ops { s with heap := s.heap ++ List.replicate ops.length none }
    else runD ⟨P, ext, call, false, false⟩ false ops (masks ops []) s.heap.length 0 ops s) := rfl

theorem funD_one {P : Program} {ext orc : Orc} {us : List FuncId} {cf d : Nat} {f : FuncId} {args : List Value} {h : Heap} {fn : Func} {c : Code} (ho : orc f = none) (hu : us.any (Nat.beq f) = true) (hf : P.funcs[f]? = some fn) (hb : fn.body = some c) :
    funD P ext orc us cf (d + 1) f args h = codeK ⟨P, ext, funD P ext orc us cf d, false, false⟩ cf c (startS fn args h) (finK P fn) := by
  simp only [funD, ho, hu, cond_true, hf, hb]

/-! ### A function that parts: its answers as a tree -/
def eraseH (r : Value × Heap × Bool) : Value × Heap × Bool := (r.1, [], r.2.2)
theorem codeK_map {E : Env} {g : Value × Heap × Bool → Value × Heap × Bool} : ∀ (n : Nat) (c : Code) (s : St) (k : Ex → St → Ans), (codeK E n c s k).map g = codeK E n c s fun e s' => (k e s').map g := by
  intro n
  induction n with
  | zero => intros; rfl
  | succ n ih =>
    intro c s k
    cases c with
    | region i ops draw =>
      simp only [codeK]
      cases regionD E draw ops.toList s <;> rfl
    | seq a b =>
      simp only [codeK, ih]
      congr 1; funext e s'
      cases e <;> simp only [ih]
    | cond x a b =>
      simp only [codeK]
      split
      · rename_i t g' _
        cases t <;> simp only [cond_true, cond_false, ih]
      · rfl
    | block id a =>
      simp only [codeK, ih]
      congr 1; funext e s'
      cases e with
      | exit j => simp only []; cases Nat.beq j id <;> rfl
      | normal => rfl
      | ret => rfl
    | loop a =>
      simp only [codeK, ih]
      congr 1; funext e s'
      cases e <;> simp only [ih]
    | scope a => simp only [codeK, ih]
    | _ => rfl

def funM (P : Program) (ext orc : Orc) (us : List FuncId) (cf d : Nat) (f : FuncId) (args : List Value) : Ans :=
  match P.funcs[f]? with
  | some fn => match fn.body with
    | some c => codeK ⟨P, ext, funD P ext orc us cf d, false, false⟩ cf c (startS fn args []) fun e s => (finK P fn e s).map eraseH
    | none => none
  | none => none
set_option linter.unusedSimpArgs false in
theorem of_funM {P : Program} {ext orc : Orc} {us : List FuncId} {cf d : Nat} {f : FuncId} {args : List Value} {v : Value} {k : Bool} (ho : orc f = none) (hu : us.any (Nat.beq f) = true)
    (h : funM P ext orc us cf d f args = some (v, [], k)) : ∃ h', funD P ext orc us cf (d + 1) f args [] = some (v, h', k) := by
  have e : (funD P ext orc us cf (d + 1) f args []).map eraseH = some (v, [], k) := by
    simp only [funD, ho, hu, cond_true]
    unfold funM at h
    split at h
    · rename_i fn h1
      split at h
      · rename_i c h2
        simp only [h1, h2, codeK_map]
        exact h
      · cases h
    · cases h
  cases hf : funD P ext orc us cf (d + 1) f args [] with
  | none => rw [hf] at e; cases e
  | some r =>
    obtain ⟨v', h', k'⟩ := r
    rw [hf] at e
    simp only [Option.map_some, eraseH, Option.some.injEq, Prod.mk.injEq] at e
    obtain ⟨rfl, _, rfl⟩ := e
    exact ⟨h', rfl⟩
/-! ### rows of numbers, as contracts name them -/
def eqF32 : List Value → List Value → Bool
  | [], [] => true
  | .float .f32 a :: r, .float .f32 b :: s => Nat.beq a b && eqF32 r s
  | _, _ => false
def eqN (n : Nat) : Sig
  | [.agg xs, .agg ys] => some (.bool true, Nat.beq xs.toList.length n && eqF32 xs.toList ys.toList)
  | _ => none
def rowF32 : List Value → Bool
  | [] => true
  | .float .f32 _ :: r => rowF32 r
  | _ :: _ => false
/-- handed on as it is -/
def idN (n : Nat) : Sig
  | [.agg xs] => some (.agg xs, Nat.beq xs.toList.length n && rowF32 xs.toList)
  | _ => none
end
end Ev
namespace Ev
noncomputable section
open Go Go.RowKit Ieee
variable [Frn]

/-! ### Finite numbers -/
/-- the order of words of numbers that are not negative -/
theorem read_pos (R : Nat) (h : R < Ieee.double.infRung) : ∃ m q, Ieee.double.read R = .number false m (Ieee.double.leastPlace + (q : Nat)) ∧ ((R < Ieee.double.binade ∧ m = R ∧ q = 0) ∨ (Ieee.double.binade ≤ R ∧ m = Ieee.double.binade + R % Ieee.double.binade ∧ q = R / Ieee.double.binade - 1)) := by
  have hlt : R < Ieee.double.signWeight := Nat.lt_trans h Ieee.double.infRung_lt
  unfold Format.read
  rw [Nat.mod_eq_of_lt hlt, Nat.div_eq_of_lt hlt]
  by_cases hb : R < Ieee.double.binade
  · simp only [if_pos hb]
    exact ⟨R, 0, by simp, .inl ⟨hb, rfl, rfl⟩⟩
  · simp only [if_neg hb, if_pos h]
    exact ⟨_, _, rfl, .inr ⟨by omega, rfl, rfl⟩⟩
theorem fle_pos {R S : Nat} (h : R ≤ S) (hS : S < Ieee.double.infRung) : fle .f64 R S = true := by
  obtain ⟨m, q, e1, c1⟩ := read_pos R (Nat.lt_of_le_of_lt h hS)
  obtain ⟨n, p, e2, c2⟩ := read_pos S hS
  have hb : Ieee.double.binade = 4503599627370496 := double_facts.2.1
  rw [hb] at c1 c2
  have hq : q ≤ p := by
    rcases c1 with ⟨a, b, c⟩ | ⟨a, b, c⟩ <;> rcases c2 with ⟨a', b', c'⟩ | ⟨a', b', c'⟩ <;> omega
  have hmn : m ≤ n * 2 ^ (p - q) := by
    by_cases hqp : p = q
    · subst hqp
      rw [Nat.sub_self, Nat.pow_zero, Nat.mul_one]
      rcases c1 with ⟨a, b, c⟩ | ⟨a, b, c⟩ <;> rcases c2 with ⟨a', b', c'⟩ | ⟨a', b', c'⟩ <;> omega
    · have h2 : 2 ≤ 2 ^ (p - q) := by
        calc 2 = 2 ^ 1 := rfl
          _ ≤ 2 ^ (p - q) := Nat.pow_le_pow_right (by decide) (by omega)
      have hn : 4503599627370496 ≤ n := by
        rcases c2 with ⟨a', b', c'⟩ | ⟨a', b', c'⟩ <;> omega
      have hm : m < 2 * 4503599627370496 := by
        rcases c1 with ⟨a, b, c⟩ | ⟨a, b, c⟩ <;> omega
      calc m ≤ n * 2 := by omega
        _ ≤ n * 2 ^ (p - q) := Nat.mul_le_mul_left _ h2
  have hc : (Ieee.double.order R S == some .lt || Ieee.double.order R S == some .eq) = true := by
    unfold Format.order
    rw [e1, e2]
    simp only [Datum.order]
    rw [Int.min_eq_left (by omega)]
    have a1 : (Ieee.double.leastPlace + (q : Int) - (Ieee.double.leastPlace + (q : Int))).toNat = 0 := by omega
    have a2 : (Ieee.double.leastPlace + (p : Int) - (Ieee.double.leastPlace + (q : Int))).toNat = p - q := by omega
    rw [a1, a2]
    have key : (Ieee.signed false m 0) ≤ Ieee.signed false n (p - q) := by
      simp only [Ieee.signed, Nat.shiftLeft_eq]
      simp
      exact_mod_cast hmn
    rcases Int.lt_or_eq_of_le key with hl | hl
    · rw [Int.compare_eq_lt.2 hl]; rfl
    · rw [Int.compare_eq_eq.2 hl]; rfl
  exact hc
def maxF : Nat := 5183643170566569984
def fabsR (y : Nat) : Nat := (bits BinOp.andNot IntKind.u64 (y : Nat) 9223372036854775808).toNat
theorem fabsR_eq (y : Nat) : fabsR y = y % 9223372036854775808 := by
  unfold fabsR bits
  have e : (BitVec.ofInt IntKind.u64.bits ((y : Nat) : Int) &&& ~~~(BitVec.ofInt IntKind.u64.bits 9223372036854775808)).toNat = y % 9223372036854775808 := by
    show (BitVec.ofInt 64 (y : Int) &&& ~~~(BitVec.ofInt 64 9223372036854775808)).toNat = _
    rw [BitVec.toNat_and, show (~~~(BitVec.ofInt 64 9223372036854775808)).toNat = 2 ^ 63 - 1 by decide, Nat.and_two_pow_sub_one_eq_mod, BitVec.ofInt_natCast, BitVec.toNat_ofNat]
    omega
  simp only [e]
  unfold IntKind.wrap
  have h : (((y % 9223372036854775808 : Nat) : Int) % (2 ^ IntKind.u64.bits : Int)) = ((y % 9223372036854775808 : Nat) : Int) := by
    show (((y % 9223372036854775808 : Nat) : Int) % (18446744073709551616 : Int)) = _
    omega
  rw [h]
  simp [IntKind.signed]
  omega
/-- the absolute value -/
def fabs (y : Nat) : Nat := cn .f64 (fabsR y)
theorem fabs_cn (x : Nat) : cn .f64 (fabsR x) = fabs (cn .f64 x) := by
  unfold fabs
  cases hn : isN .f64 x with
  | false => rw [cn_of_not hn]
  | true =>
    have h1 : isN .f64 (fabsR x) = true := by
      rw [fabsR_eq]
      have h : (Ieee.double.read x).isNaN = true := hn
      show (Ieee.double.read (x % 9223372036854775808)).isNaN = true
      unfold Format.read at h ⊢
      rw [double_facts.2.2.2.1] at h ⊢
      rw [Nat.mod_mod]
      simp only at h ⊢
      split at h
      · cases h
      · rename_i h2
        rw [if_neg h2]
        split at h
        · cases h
        · rename_i h3
          rw [if_neg h3]
          split at h
          · cases h
          · rename_i h4
            rw [if_neg h4]; rfl
    rw [cn_of_N h1, cn_of_N hn]
    decide +kernel
/-- a number that is no infinity -/
def finB (a : Nat) : Bool := match Ieee.single.read a with | .number _ _ _ => true | _ => false
theorem fin_model (a : Nat) : feq .f32 (fsub .f32 a a) 0 = finB a := by
  have hs : fsub .f32 a a = o2 .f32 (((Ieee.single.read a).sum (Ieee.single.read a).opposite).map Ieee.single.write) := rfl
  rw [hs]
  unfold finB
  rcases read_single a with ⟨g, m, e, h, hm, he, he'⟩ | ⟨g, h⟩ | ⟨g, t, h⟩
  · rw [h]
    have : (Datum.number g m e).sum (Datum.number g m e).opposite = some (.number false 0 e) := by
      simp only [Datum.opposite, Datum.sum, Int.min_self, Int.sub_self]
      cases g <;> simp [Ieee.signed] <;> omega
    rw [this]
    show feq .f32 (Ieee.single.nearest false 0 e) 0 = true
    unfold Format.nearest
    rw [if_pos rfl]
    decide +kernel
  · rw [h]
    cases g <;> decide +kernel
  · rw [h]
    show feq .f32 (qn .f32) 0 = false
    decide +kernel
theorem fin_impl (a : Nat) : fle .f64 (fabs (fcv .f32 .f64 a)) maxF = finB a := by
  obtain ⟨d1, d2, d3, d4, d5⟩ := double_facts
  unfold finB
  rcases read_single a with ⟨g, m, e, h, hm, he, he'⟩ | ⟨g, h⟩ | ⟨g, t, h⟩
  · rw [h]
    have hf : fcv .f32 .f64 a = Ieee.double.nearest g m e := by
      unfold fcv
      rw [show FloatKind.f32.format.read a = .number g m e from h]
      rfl
    rw [hf]
    have hR : ∃ R, Ieee.double.nearest g m e = Ieee.double.word g R ∧ R ≤ maxF := by
      by_cases h0 : m = 0
      · subst h0
        refine ⟨0, ?_, by decide⟩
        unfold Format.nearest
        rw [if_pos rfl]
      · refine ⟨_, widen_nearest g m e h0 hm he, ?_⟩
        have hl : m.log2 < 24 := (Nat.log2_lt h0).2 hm
        refine Nat.le_trans (Nat.min_le_left ..) ?_
        unfold maxF
        by_cases hk : e + (m.log2 : Int) - 52 + 1074 ≤ 1148
        · have h1 : m < 2 ^ (m.log2 + 1) := Nat.lt_log2_self
          have h2 : m * 2 ^ (52 - m.log2) < 2 ^ 53 := by
            calc m * 2 ^ (52 - m.log2) < 2 ^ (m.log2 + 1) * 2 ^ (52 - m.log2) := Nat.mul_lt_mul_of_pos_right h1 (Nat.two_pow_pos _)
              _ = 2 ^ 53 := by rw [← Nat.pow_add]; congr 1; omega
          omega
        · have h1 : m.log2 = 23 := by omega
          rw [h1]
          omega
    obtain ⟨R, e1, e2⟩ := hR
    rw [e1]
    have hRi : R < Ieee.double.infRung := Nat.lt_of_le_of_lt e2 (by rw [d1]; decide)
    have hw : fabsR (Ieee.double.word g R) = R := by
      rw [fabsR_eq, ← d4]
      exact Format.word_mod _ _ (Nat.lt_trans hRi Ieee.double.infRung_lt)
    have hN : isN .f64 R = false := Format.read_word_notNaN Ieee.double false (Nat.le_of_lt hRi)
    unfold fabs
    rw [hw, cn_of_not hN]
    exact fle_pos e2 (by rw [d1]; decide)
  · rw [h]
    have hf : fcv .f32 .f64 a = Ieee.double.write (.infinity g) := by
      unfold fcv
      rw [show FloatKind.f32.format.read a = .infinity g from h]
      rfl
    rw [hf]
    cases g <;> decide +kernel
  · rw [h]
    have hf : fcv .f32 .f64 a = qn .f64 := by
      unfold fcv
      rw [show FloatKind.f32.format.read a = .nan g t from h]
    rw [hf]
    show fle .f64 (fabs (qn .f64)) maxF = false
    decide +kernel
end
end Ev
