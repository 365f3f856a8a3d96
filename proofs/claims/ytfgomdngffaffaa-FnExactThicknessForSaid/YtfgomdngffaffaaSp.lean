/-
  The symbolic executor goes on: calls that panic, and functions that defer a closure which recovers ('guardSy'). No condition; nothing of one program stands here.
-/
import Derived.Test.YtfgomdngffaffaaSx
import Derived.Test.YtfgomdngffaffaaEp
noncomputable section
namespace Sx
open Go Ev

/-! ### Code that may panic: a panic is a way out with a great number -/
def PB : Nat := 1000000
/-- what a call comes to -/
structure CallR where
  norm : Option SV
  pan : List (Nat × TypeId)
abbrev CallQ := PC → FuncId → List SV → M CallR
/-- 'ps': the functions that may panic (they take plain values) -/
structure EnvQ where
  E : EnvS
  ps : List FuncId
  call : CallQ
def psOf (ps : List FuncId) (o : Oper) : Bool :=
  match o.op with
  | .panic _ => true
  | .call c => (match c.callee with
    | .value (.func f) => ps.any (Nat.beq f)
    | _ => false)
  | _ => false
def splitQ (ps : List FuncId) : List Oper → Option (List Oper × Oper × List Oper)
  | [] => none
  | o :: r => bif psOf ps o then some ([], o, r) else match splitQ ps r with
    | some (p, q, s) => some (o :: p, q, s)
    | none => none
def onP : List (Nat × TypeId) → Nat → M Nat
  | [], f => ret f
  | x :: r, f => bnd (ite x.1 1 f) fun f' => onP r f'
def exitsP (sp : SSt) (l : List (Nat × TypeId)) : Exits := l.map fun q => (PB + q.2, q.1, sp)
def blankS (tm : TmS) : List Tmp → TmS
  | [] => tm
  | d :: r => blankS (slots tm (some d) none) r
def runLS (E : EnvS) (pc : PC) (ops : List Oper) (ms : List Nat) (lo : Nat) : List (Nat × Oper) → SSt → M SSt
  | [], s => ret s
  | x :: r, s => bnd (stepS E pc true (chkD true ms lo x.1) ops (lo + x.1) x.2 s) fun s' => runLS E pc ops ms lo r s'
/-- the others must go where one panics -/
def restQ (E : EnvS) (pc : PC) (draw : Bool) (ops : List Oper) (ms : List Nat) (lo j p : Nat) (rest : List Oper) (s1 : SSt) : M Unit :=
  bif draw then gd (calmB ms j (tagL 0 ops)) (bnd (runLS E ((p, true) :: pc) ops ms lo ((tagL (j + 1) rest).filter (freeOf ms j)) s1) fun _ => ret ()) else ret ()
def panS (draw : Bool) (ops : List Oper) (s s1 : SSt) : SSt := bif draw then ⟨blankS s.tmps (dstsOf ops), s.heap⟩ else s1
def goOnQ (E : EnvS) (pc : PC) (draw : Bool) (ops : List Oper) (ms : List Nat) (lo j p : Nat) (o : Oper) (rest : List Oper) (s1 : SSt) (xs : Exits) : Option SV → M (Option SSt × Exits)
  | none => bnd (needS pc p) fun _ => ret (none, xs)
  | some v => gd (plainS v) <| bnd (runS E ((p, false) :: pc) draw ops ms lo (j + 1) rest ⟨slots s1.tmps o.dst (some (v, 1)), s1.heap⟩) fun s3 => ret (some s3, xs)
def oneQ (Q : EnvQ) (pc : PC) (draw : Bool) (ops : List Oper) (ms : List Nat) (lo j : Nat) (o : Oper) (rest : List Oper) (s s1 : SSt) : M (Option SSt × Exits) :=
  match o.op with
  | .panic x => gd (!draw) <| bnd (rdS pc s1.tmps x) fun v => match v with
    | .lit (.iface t y) => gd (emptyA y) (ret (none, [(PB + t, 1, s1)]))
    | _ => non
  | .call c => match c.callee with
    | .value (.func f) => match Q.E.ext f with
      | some _ => non
      | none => bnd (rdL pc s1.tmps c.args.toList) fun l => gd (l.all plainS && Q.ps.any (Nat.beq f)) <|
        bnd (Q.call pc f l) fun r => bnd (onP r.pan 0) fun p =>
        bnd (restQ Q.E pc draw ops ms lo j p rest s1) fun _ => goOnQ Q.E pc draw ops ms lo j p o rest s1 (exitsP (panS draw ops s s1) r.pan) r.norm
    | _ => non
  | _ => non
def regionQ (Q : EnvQ) (pc : PC) (draw : Bool) (ops : List Oper) (s : SSt) : M (Option SSt × Exits) :=
  match splitQ Q.ps ops with
  | none => bnd (regionS Q.E pc draw ops s) fun s' => ret (some s', [])
  | some (pre, o, rest) => gd (!hasNew ops && o.guard.isNone) <|
    bnd (runS Q.E pc draw ops (masks ops []) s.heap.length 0 pre s) fun s1 => oneQ Q pc draw ops (masks ops []) s.heap.length pre.length o rest s s1
def execQ (Q : EnvQ) (keep : Keep) (res : PC → SSt → M (List SV)) : Nat → ExF
  | 0, _, _, _ => non
  | n + 1, c, pc, s =>
    match c with
    | .skip => ret ⟨some s, [], []⟩
    | .region _ ops draw => bnd (regionQ Q pc draw ops.toList s) fun r => ret ⟨r.1, [], r.2⟩
    | .seq a b => bnd (execQ Q keep res n a pc s) fun o => exThen (execQ Q keep res n) keep b pc o
    | .cond x a b => bnd (rdS pc s.tmps x) fun v => exCond (execQ Q keep res n) keep a b pc s v
    | .block id a => gd (Nat.blt id PB) <| bnd (execQ Q keep res n a pc s) fun o => exBlock id o
    | .loop a => bnd (execQ Q keep res n a pc s) fun o => exThen (execQ Q keep res n) keep (.loop a) pc o
    | .exit id => gd (Nat.blt id PB) (ret ⟨none, [], [(id, 1, s)]⟩)
    | .scope a => execQ Q keep res n a pc s
    | .label _ => ret ⟨some s, [], []⟩
    | .ret => bnd (res pc s) fun l => ret ⟨none, [(1, l, keepH keep s.heap)], []⟩
    | _ => non
def pansOf : Exits → Option (List (Nat × TypeId))
  | [] => some []
  | (id, g, _) :: r => bif Nat.ble PB id then (match pansOf r with
    | some l => some ((g, id - PB) :: l)
    | none => none) else none
/-- the returns, and the end, as one -/
def normQ (keep : Keep) (res : PC → SSt → M (List SV)) (pc : PC) (o : OutS) : M (Option RetS) :=
  match o.norm, o.ret with
  | none, [] => ret none
  | none, q :: r => bnd (foldR keep q r) fun m => ret (some m)
  | some s, r => bnd (outG r o.exits) fun g => bnd (res ((g, false) :: pc) s) fun l => match r with
    | [] => ret (some (1, l, keepH keep s.heap))
    | q :: r' => bnd (foldR keep q r') fun m => bnd (join2 keep m (1, l, keepH keep s.heap)) fun m' => ret (some m')
def finQ (res : PC → SSt → M (List SV)) (pc : PC) (o : OutS) : M CallR :=
  bnd (opt (pansOf o.exits)) fun pans => bnd (normQ .no res pc o) fun q => ret ⟨q.map fun q => oneOrS q.2.1, pans⟩
def funQ (P : Program) (ext orc : List (Nat × SymF)) (us ps : List FuncId) (cf d : Nat) : Nat → CallQ
  | 0 => fun _ _ _ => non
  | e + 1 => fun pc f args => match P.funcs[f]? with
    | some fn => match fn.body with
      | some c => gd (Nat.ble (Nat.add args.length (Nat.sub fn.ntmps args.length)) 4096) <| startC fn args [] fun s =>
        bnd (execQ ⟨⟨P, fun f => seekS f ext, funS P ext orc us cf d, false⟩, ps, funQ P ext orc us ps cf d e⟩ .no (resS P fn.results.toList) cf c pc s) fun o =>
          finQ (resS P fn.results.toList) pc o
      | none => non
    | none => non

/-! ### a function that defers a closure first -/
def ptrOne (pc : PC) (s : SSt) : ResultVar → M SV
  | .tmp i => rdS pc s.tmps (.tmp i)
  | .cell a _ => rdS pc s.tmps (.tmp a)
def ptrS : List ResultVar → PC → SSt → M (List SV)
  | [], _, _ => ret []
  | r :: rs, pc, s => bnd (ptrOne pc s r) fun v => bnd (ptrS rs pc s) fun l => ret (v :: l)
def fetchS (P : Program) (h : HeapS) : List ResultVar → List SV → Option (List SV)
  | [], [] => some []
  | .tmp _ :: rs, v :: l => (match fetchS P h rs l with | some m => some (v :: m) | none => none)
  | .cell _ ty :: rs, v :: l => (match loadS P (fun _ => true) h ty v with
    | some x => (match fetchS P h rs l with | some m => some (x :: m) | none => none)
    | none => none)
  | _, _ => none
def deferS (Q : EnvQ) (n : Nat) (fn : Func) (c : Code) (caps : List SV) (pc : PC) (h : HeapS) (rc : Option TypeId) : M HeapS :=
  match c with
  | .seq (.region _ ops false) rest =>
    match ops.toList with
    | o :: r => gd (recB o && !hasNew (o :: r) && codeOk rest && Nat.ble (Nat.add caps.length (Nat.sub fn.ntmps caps.length)) 4096) <|
      startC fn caps h fun s0 => bnd (runS Q.E pc false (o :: r) (masks (o :: r) []) h.length 1 r ⟨slots s0.tmps o.dst (some (.lit (recV rc), 1)), h⟩) fun s1 =>
      bnd (execS Q.E .full (fun _ _ => ret []) n rest pc s1) fun o => bnd (finO .full (fun _ _ => ret []) pc o) fun r => ret r.2
    | [] => non
  | _ => non
def deferF (Q : EnvQ) (n : Nat) (id : FuncId) (caps : List SV) (pc : PC) (h : HeapS) (rc : Option TypeId) : M HeapS :=
  match Q.E.P.funcs[id]? with
  | some fn => match fn.body with
    | some c => gd (fn.results.toList.isEmpty && !(fn.name == "runtime.NumGoroutine")) (deferS Q n fn c caps pc h rc)
    | none => non
  | none => non
def endS (Q : EnvQ) (n : Nat) (rs : List ResultVar) (id : FuncId) (caps : List SV) (pc : PC) (h : HeapS) (l : List SV) (rc : Option TypeId) : M (List SV) :=
  bnd (deferF Q n id caps pc h rc) fun h' => opt (fetchS Q.E.P h' rs l)
/-- one panic after the other, and what is returned where none is -/
def leaveX (Q : EnvQ) (n : Nat) (rs : List ResultVar) (id : FuncId) (caps : List SV) (pc : PC) (last : Option (List SV)) : Exits → M (List SV)
  | [] => opt last
  | (i, g, s) :: r => gd (Nat.ble PB i) <| bnd (ptrS rs ((g, true) :: pc) s) fun l => bnd (endS Q n rs id caps ((g, true) :: pc) s.heap l (some (i - PB))) fun m =>
    match r, last with
    | [], none => bnd (needS pc g) fun _ => ret m
    | _, _ => bnd (leaveX Q n rs id caps pc last r) fun m' => mergeL (mergeV 5 g) m m'
def leaveS (Q : EnvQ) (n : Nat) (rs : List ResultVar) (id : FuncId) (caps : List SV) (pc : PC) (o : OutS) : M SV :=
  bnd (normQ .full (ptrS rs) pc o) fun q => bnd (outX o.exits 0) fun g => match q with
    | some q => bnd (endS Q n rs id caps ((g, false) :: pc) q.2.2 q.2.1 none) fun m => bnd (leaveX Q n rs id caps pc (some m) o.exits) fun m => ret (oneOrS m)
    | none => bnd (leaveX Q n rs id caps pc none o.exits) fun m => ret (oneOrS m)
def guardK (Q : EnvQ) (n : Nat) (fn : Func) (rest : Code) (pc : PC) (s2 : SSt) : SV → M SV
  | .func (.func id) [] caps => bnd (execQ Q .full (ptrS fn.results.toList) n rest pc s2) fun o => leaveS Q n fn.results.toList id caps pc o
  | _ => non
def guardC1 (Q : EnvQ) (n : Nat) (fn : Func) (o1 : List Oper) (rest : Code) (pc : PC) (s1 : SSt) : M SV :=
  match o1.getLast? with
  | some o => match deferOf o with
    | some f => gd (!hasNew o1 && codeOk rest) <| bnd (runS Q.E pc false o1 (masks o1 []) s1.heap.length 0 o1.dropLast s1) fun s2 =>
      bnd (rdS pc s2.tmps f) fun v => guardK Q n fn rest pc s2 v
    | none => non
  | none => non
def guardCS (Q : EnvQ) (n : Nat) (fn : Func) (pc : PC) (args : List SV) : Code → M SV
  | .seq (.region _ o0 false) (.seq (.region _ o1 false) rest) =>
    gd (Nat.ble (Nat.add args.length (Nat.sub fn.ntmps args.length)) 4096) <| startC fn args [] fun s0 => bnd (regionS Q.E pc false o0.toList s0) fun s1 => guardC1 Q n fn o1.toList rest pc s1
  | _ => non
def guardSy (Q : EnvQ) (n : Nat) (f : FuncId) : SymF := fun pc args =>
  match Q.E.P.funcs[f]? with
  | some fn => match fn.body with
    | some c => gd (args.all plainS) <| bnd (guardCS Q n fn pc args c) fun v => gd (plainS v) (ret v)
    | none => non
  | none => non
def disB (us ps : List FuncId) (orc : List (Nat × SymF)) : Bool := ps.all fun f => !us.any (Nat.beq f) && (seekS f orc).isNone
/-- what is at hand in a program -/
def envQ (P : Program) (ext orc : List (Nat × SymF)) (us ps : List FuncId) (cf d e : Nat) : EnvQ := ⟨⟨P, fun f => seekS f ext, funS P ext orc us cf d, false⟩, ps, funQ P ext orc us ps cf d e⟩
end Sx
end
noncomputable section
namespace Sx
open Go Ev

/-! ### regions, as the evaluator takes them -/
theorem runD_append {E : Env} {draw : Bool} {ops : List Oper} {ms : List Nat} {lo : Nat} : ∀ (a b : List Oper) (i : Nat) (s : St), runD E draw ops ms lo i (a ++ b) s = (runD E draw ops ms lo i a s).bind fun s' => runD E draw ops ms lo (i + a.length) b s'
  | [], b, i, s => rfl
  | o :: a, b, i, s => by
    simp only [List.cons_append, runD]
    split
    · rw [runD_append a b (i + 1), List.length_cons, show i + 1 + a.length = i + (a.length + 1) by omega]
    · rfl
theorem panR_skip {X : EnvX} {draw : Bool} {ops : List Oper} {ms : List Nat} {lo : Nat} : ∀ (a b : List Oper) (i : Nat) (s s1 : St), runD X.env draw ops ms lo i a s = some s1 → panR X draw ops ms lo (tagL i (a ++ b)) s = panR X draw ops ms lo (tagL (i + a.length) b) s1
  | [], b, i, s, s1, h => by cases h; rfl
  | o :: a, b, i, s, s1, h => by
    simp only [runD] at h
    split at h
    · rename_i s' hs'
      have := panR_skip a b (i + 1) s' s1 h
      simp only [List.cons_append, tagL]
      rw [panR]
      simp only [hs']
      rw [this, List.length_cons, show i + 1 + a.length = i + (a.length + 1) by omega]
    · cases h
theorem splitQ_spec {ps : List FuncId} : ∀ {ops pre rest : List Oper} {o : Oper}, splitQ ps ops = some (pre, o, rest) → ops = pre ++ o :: rest
  | [], _, _, _, h => by cases h
  | x :: r, pre, rest, o, h => by
    unfold splitQ at h
    cases hp : psOf ps x with
    | true => rw [hp] at h; cases h; rfl
    | false =>
      rw [hp, cond_false] at h
      split at h
      · rename_i p q s hs
        cases h
        rw [splitQ_spec hs]
        rfl
      · cases h
def onB (F : Tab) (ρ : Nat → Int) (U : Nat → Vl → Vl) (l : List (Nat × TypeId)) : Bool := l.any fun q => tv F ρ U q.1
structure CallQR (F : Tab) (ρ : Nat → Int) (U : Nat → Vl → Vl) (X : EnvX) (f : FuncId) (args : List SV) (r : CallR) : Prop where
  val : onB F ρ U r.pan = false → ∃ v, r.norm = some v ∧ ∃ h', X.call f (cvl F ρ U args) [] = some (.val (cv F ρ U v), h', true)
  pan : ∀ q ∈ r.pan, tv F ρ U q.1 = true → ∃ h', X.call f (cvl F ρ U args) [] = some (.pan q.2, h', true)
structure EnvQR (F : Tab) (ρ : Nat → Int) (U : Nat → Vl → Vl) (Q : EnvQ) (X : EnvX) : Prop where
  base : EnvR F ρ U Q.E X.env
  call : ∀ pc f args, Q.ps.any (Nat.beq f) = true → Spec F (Q.call pc f args) (fun r => pcH F ρ U pc → CallQR F ρ U X f args r)
theorem callD_val {X : EnvX} {draw : Bool} {h : Heap} {f : FuncId} {A : List Value} {v : Value} {h' : Heap} (he : X.ext f = none) (hA : A.all plainB = true) (hc : X.call f A [] = some (.val v, h', true)) (hv : plainB v = true) :
    callD X.env draw h (.func (.func f) #[] #[]) A true = some ⟨v, true, .no, true⟩ := by
  have e : (#[] : Array Value).toList ++ A ++ (#[] : Array Value).toList = A := by simp
  unfold callD
  simp only [e]
  rw [show X.env.ext f = none from he]
  have hc' : X.env.call f A [] = some (v, h', true) := by
    show valX X.call f A [] = _
    unfold valX
    rw [hc]
  simp only [hA, cond_true, hc', hv]
  rfl
theorem at_off {E : Env} (h : E.rd = false) : E.at false = E := by cases E; cases h; rfl
theorem opD_at_same {E : Env} {b draw : Bool} {chk : Nat → Bool} {nid : Nat} {t : List (Value × Bool)} {h : Heap} {o : Op} (hc : isCallV o = false) : opD (E.at b) draw chk nid t h o = opD E draw chk nid t h o := by
  cases o with
  | call c => cases hc
  | slice ty x lo hi mx => cases mx <;> rfl
  | typeAssert x xt ty ok => cases ok <;> rfl
  | _ => rfl
theorem callH_off {E : Env} {h : Heap} {id : FuncId} {as : List Value} {g : Bool} (hrd : E.rd = false) : callH E true h id as g = none := by
  unfold callH
  cases E.call id as h with
  | none => rfl
  | some p => obtain ⟨v, h', k⟩ := p; simp only [hrd]; rfl
theorem callH_at {E : Env} {b draw : Bool} {h : Heap} {id : FuncId} {as : List Value} {g : Bool} {r : OpRes} (hrd : E.rd = false) (hr : callH E draw h id as g = some r) : callH (E.at b) draw h id as g = some r := by
  cases draw with
  | true => rw [callH_off hrd] at hr; cases hr
  | false => exact hr
theorem callD_at {E : Env} {b draw : Bool} {h : Heap} {f : Value} {args : List Value} {g : Bool} {r : OpRes} (hrd : E.rd = false) (hr : callD E draw h f args g = some r) : callD (E.at b) draw h f args g = some r := by
  unfold callD at hr ⊢
  split at hr
  · rename_i id first captured
    show (match E.ext id with | some e => _ | none => _) = _
    cases he : E.ext id with
    | some e => rw [he] at hr; exact hr
    | none =>
      rw [he] at hr
      dsimp only at hr ⊢
      cases hp : (first.toList ++ args ++ captured.toList).all plainB with
      | true =>
        rw [hp] at hr
        rw [cond_true] at hr ⊢
        show (match E.call id (first.toList ++ args ++ captured.toList) [] with | some (v, _, k) => _ | none => _) = _
        cases hc : E.call id (first.toList ++ args ++ captured.toList) [] with
        | none => rw [hc] at hr; cases hr
        | some p =>
          obtain ⟨v, h0, k⟩ := p
          rw [hc] at hr
          dsimp only at hr ⊢
          cases hv : plainB v with
          | true => rw [hv] at hr; exact hr
          | false => rw [hv] at hr; exact callH_at hrd hr
      | false =>
        rw [hp] at hr
        exact callH_at hrd hr
  · cases hr
theorem opD_at {E : Env} {b draw : Bool} {chk : Nat → Bool} {nid : Nat} {t : List (Value × Bool)} {h : Heap} {o : Op} {r : OpRes} (hrd : E.rd = false) (hr : opD E draw chk nid t h o = some r) : opD (E.at b) draw chk nid t h o = some r := by
  cases hc : isCallV o with
  | false => rw [opD_at_same hc]; exact hr
  | true =>
    cases o with
    | call c =>
      simp only [opD] at hr ⊢
      cases hcal : c.callee with
      | builtin x => rw [hcal] at hr; exact hr
      | value f => rw [hcal] at hr; exact callD_at hrd hr
      | invoke x nm => rw [hcal] at hr; exact hr
    | _ => cases hc
theorem stepD_at {E : Env} {b draw : Bool} {chk : Nat → Bool} {ops : List Oper} {nid : Nat} {o : Oper} {s s' : St} (hrd : E.rd = false) (hg : isCallV o.op = true → o.guard = none) (hr : stepD E draw chk ops nid o s = some s') : stepD (E.at b) draw chk ops nid o s = some s' := by
  cases hc : isCallV o.op with
  | false =>
    unfold stepD at hr ⊢
    rw [opD_at_same hc]
    exact hr
  | true =>
    unfold stepD at hr ⊢
    rw [hg hc] at hr ⊢
    dsimp only at hr ⊢
    split at hr
    · rename_i r h1
      rw [opD_at hrd h1]
      exact hr
    · cases hr
theorem runD_at {E : Env} {b draw : Bool} {ops : List Oper} {ms : List Nat} {lo : Nat} (hrd : E.rd = false) : ∀ (l : List Oper) (i : Nat) (s s' : St), (∀ o ∈ l, isCallV o.op = true → o.guard = none) → runD E draw ops ms lo i l s = some s' → runD (E.at b) draw ops ms lo i l s = some s'
  | [], _, _, _, _, h => h
  | o :: r, i, s, s', hg, h => by
    unfold runD at h ⊢
    split at h
    · rename_i s1 h1
      rw [stepD_at hrd (hg o List.mem_cons_self) h1]
      exact runD_at hrd r (i + 1) s1 s' (fun o ho => hg o (List.mem_cons_of_mem _ ho)) h
    · cases h
theorem lax_guard {ops : List Oper} {d : Bool} (h : (d && laxB ops) = true) : ∀ o ∈ ops, isCallV o.op = true → o.guard = none := fun o ho hc => by
  rw [Bool.and_eq_true] at h
  have h := h.2
  unfold laxB at h
  cases hn : hasNew ops with
  | true => rw [hn] at h; cases h
  | false =>
    rw [hn, cond_false, Bool.and_eq_true] at h
    have := List.all_eq_true.1 h.1 o ho
    rw [hc] at this
    simpa using this
theorem loadF_chk {P : Program} {c c' : Nat → Bool} {h : Heap} {t : TypeId} {x : Value} (hc : ∀ b, b < h.length → c b = c' b) : loadF P c h t x = loadF P c' h t x := by
  unfold loadF
  split
  · rename_i b o
    by_cases hb : b < h.length
    · rw [hc b hb]
    · have : h.getD b none = none := by
        rw [List.getD_eq_getElem?_getD, List.getElem?_eq_none (by omega)]; rfl
      rw [this]
      cases c b <;> cases c' b <;> rfl
  · rfl
  · rfl
theorem storeF_chk {P : Program} {c c' : Nat → Bool} {h : Heap} {t : TypeId} {x y : Value} (hc : ∀ b, b < h.length → c b = c' b) : storeF P c h t x y = storeF P c' h t x y := by
  unfold storeF
  split
  · rename_i b o
    by_cases hb : b < h.length
    · rw [hc b hb]
    · have : h.getD b none = none := by
        rw [List.getD_eq_getElem?_getD, List.getElem?_eq_none (by omega)]; rfl
      rw [this]
      cases c b <;> cases c' b <;> rfl
  · rfl
theorem opD_chk {E : Env} {draw : Bool} {c c' : Nat → Bool} {nid : Nat} {t : List (Value × Bool)} {h : Heap} {o : Op} (hc : ∀ b, b < h.length → c b = c' b) : opD E draw c nid t h o = opD E draw c' nid t h o := by
  cases o with
  | load ty x => simp only [opD, loadF_chk hc]
  | store ty x y => simp only [opD, storeF_chk hc]
  | slice ty x lo hi mx => cases mx <;> rfl
  | typeAssert x xt ty ok => cases ok <;> rfl
  | _ => rfl
theorem stepD_chk {E : Env} {draw : Bool} {c c' : Nat → Bool} {ops : List Oper} {nid : Nat} {o : Oper} {s : St} (hc : ∀ b, b < s.heap.length → c b = c' b) : stepD E draw c ops nid o s = stepD E draw c' ops nid o s := by
  unfold stepD
  rw [opD_chk hc]
theorem step_len {E : Env} {c : Nat → Bool} {ops : List Oper} {nid : Nat} {o : Oper} {s s' : St} (hrd : E.rd = false) (hn : isNew o.op = false) (h : stepD E true c ops nid o s = some s') : s'.heap.length = s.heap.length := by
  rw [stepD_eq] at h
  obtain ⟨q, hq, rfl⟩ := Option.map_eq_some_iff.1 h
  show (putW s.heap q.2.1).length = _
  rcases stepOut_w hq with e | ⟨e, _⟩ | ⟨_, b, cs, _, e⟩ | ⟨_, e, _⟩
  · rw [e]; rfl
  · rw [hn] at e; cases e
  · rw [e]; simp [putW]
  · rw [hrd] at e; cases e
theorem run_len {E : Env} {ops : List Oper} {ms : List Nat} {lo : Nat} (hrd : E.rd = false) : ∀ (l : List Oper) (i : Nat) (s s' : St), (∀ o ∈ l, isNew o.op = false) → runD E true ops ms lo i l s = some s' → s'.heap.length = s.heap.length
  | [], _, s, s', _, h => by cases h; rfl
  | o :: r, i, s, s', hn, h => by
    unfold runD at h
    split at h
    · rename_i s1 h1
      rw [run_len hrd r (i + 1) s1 s' (fun o ho => hn o (List.mem_cons_of_mem _ ho)) h]
      exact step_len hrd (hn o List.mem_cons_self) h1
    · cases h
theorem chk_low {ms ms' : List Nat} {lo i n : Nat} (hn : n = lo) : ∀ b, b < n → chkD true ms lo i b = chkD true ms' lo i b := fun b hb => by
  have : Nat.blt b lo = true := Nat.ble_eq_true_of_le (by omega)
  unfold chkD
  rw [this]; rfl
theorem runD_chk {E : Env} {ops : List Oper} {ms ms' : List Nat} {lo : Nat} (hrd : E.rd = false) : ∀ (l : List Oper) (i : Nat) (s : St), (∀ o ∈ l, isNew o.op = false) → s.heap.length = lo → runD E true ops ms lo i l s = runD E true ops ms' lo i l s
  | [], _, _, _, _ => rfl
  | o :: r, i, s, hn, hl => by
    unfold runD
    rw [stepD_chk (chk_low (ms' := ms') hl)]
    cases h1 : stepD E true (chkD true ms' lo i) ops (lo + i) o s with
    | none => rfl
    | some s1 => exact runD_chk hrd r (i + 1) s1 (fun o ho => hn o (List.mem_cons_of_mem _ ho)) ((step_len hrd (hn o List.mem_cons_self) h1).trans hl)
theorem no_new {ops : List Oper} (h : hasNew ops = false) : ∀ o ∈ ops, isNew o.op = false := fun o ho => by
  cases hn : isNew o.op with
  | false => rfl
  | true =>
    have : hasNew ops = true := List.any_eq_true.2 ⟨o, ho, hn⟩
    rw [this] at h; cases h
abbrev msAt (draw : Bool) (ops : List Oper) : List Nat := bif draw && laxB ops then [] else masks ops []
theorem run_env {X : EnvX} {draw : Bool} {ops : List Oper} {lo : Nat} {l : List Oper} {i : Nat} {s s' : St} (hnew : hasNew ops = false) (hlo : draw = true → s.heap.length = lo) (hl : ∀ o ∈ l, o ∈ ops) (h : runD X.env draw ops (masks ops []) lo i l s = some s') :
    runD (X.env.at (draw && laxB ops)) draw ops (msAt draw ops) lo i l s = some s' := by
  unfold msAt
  cases hb : (draw && laxB ops) with
  | false => rw [at_off rfl]; exact h
  | true =>
    have hd : draw = true := by cases draw <;> first | rfl | cases hb
    subst hd
    rw [cond_true]
    refine runD_at rfl l i s s' (fun o ho hc => lax_guard hb o (hl o ho) hc) ?_
    rw [runD_chk (ms' := masks ops []) rfl l i s (fun o ho => no_new hnew o (hl o ho)) (hlo rfl)]
    exact h
theorem step_env {X : EnvX} {draw : Bool} {ops : List Oper} {lo i nid : Nat} {o : Oper} {s s' : St} (hlo : draw = true → s.heap.length = lo) (hl : o ∈ ops) (h : stepD X.env draw (chkD draw (masks ops []) lo i) ops nid o s = some s') :
    stepD (X.env.at (draw && laxB ops)) draw (chkD draw (msAt draw ops) lo i) ops nid o s = some s' := by
  unfold msAt
  cases hb : (draw && laxB ops) with
  | false => rw [at_off rfl]; exact h
  | true =>
    have hd : draw = true := by cases draw <;> first | rfl | cases hb
    subst hd
    rw [cond_true]
    refine stepD_at rfl (fun hc => lax_guard hb o hl hc) ?_
    rw [stepD_chk (chk_low (ms' := masks ops []) (hlo rfl))]
    exact h
theorem callD_pan {X : EnvX} {draw : Bool} {h : Heap} {f : FuncId} {A : List Value} {t : TypeId} {h' : Heap} (he : X.ext f = none) (hA : A.all plainB = true) (hc : X.call f A [] = some (.pan t, h', true)) :
    (∀ b, callD (X.env.at b) draw h (.func (.func f) #[] #[]) A true = none) ∧ callP X draw h (.func (.func f) #[] #[]) A true = some (t, h, true) := by
  have e : (#[] : Array Value).toList ++ A ++ (#[] : Array Value).toList = A := by simp
  constructor
  · intro b
    unfold callD
    simp only [e]
    rw [show (X.env.at b).ext f = none from he]
    have hc' : (X.env.at b).call f A [] = none := by
      show valX X.call f A [] = _
      unfold valX
      rw [hc]
    simp only [hA, cond_true, hc']
  · unfold callP
    simp only [e]
    rw [he]
    simp only [hA, cond_true, hc]
    rfl

section
variable {F : Tab} {ρ : Nat → Int} {U : Nat → Vl → Vl}
theorem onP_spec (hB : Base F ρ U) : ∀ (l : List (Nat × TypeId)) (f : Nat), Spec F (onP l f) (fun g => tv F ρ U g = (onB F ρ U l || tv F ρ U f))
  | [], f => Spec.ret rfl
  | x :: r, f => by
    unfold onP
    refine Spec.bnd (ite_tv hB) fun f' => (onP_spec hB r f').mono fun g h1 h2 => ?_
    show _ = ((tv F ρ U x.1 || onB F ρ U r) || tv F ρ U f)
    rw [h1, h2, hB.t1]
    cases tv F ρ U x.1 <;> cases onB F ρ U r <;> rfl
theorem exitsP_any (sp : SSt) : ∀ (l : List (Nat × TypeId)), anyX F ρ U (exitsP sp l) = onB F ρ U l
  | [] => rfl
  | x :: r => by
    show (tv F ρ U x.1 || anyX F ρ U (exitsP sp r)) = (tv F ρ U x.1 || onB F ρ U r)
    rw [exitsP_any sp r]
theorem blank_spec {h : HeapS} : ∀ (l : List Tmp) (tm : TmS) (st : St), StR F ρ U ⟨tm, h⟩ st → StR F ρ U ⟨blankS tm l, h⟩ ⟨l.foldl (fun t d => t.set d (undef, false)) st.tmps, st.heap, st.ok⟩
  | [], _, _, hs => hs
  | d :: r, tm, st, hs => blank_spec r (slots tm (some d) none) ⟨st.tmps.set d (undef, false), st.heap, st.ok⟩
      ⟨hs.ok, lenR (p := (undef, false)) hs.len (some d) none, slots_spec (d := some d) (p := (undef, false)) hs.len hs.tm SlotR.none, hs.hp⟩
theorem runLS_spec (hB : Base F ρ U) {E : EnvS} {Ee : Env} (hE : EnvR F ρ U E Ee) {pc : PC} {ops : List Oper} {ms : List Nat} {lo : Nat} : ∀ (l : List (Nat × Oper)) (s : SSt), Spec F (runLS E pc ops ms lo l s) (StepR F ρ U pc s (runL Ee ops ms lo l))
  | [], _ => Spec.ret fun st hs _ => ⟨st, rfl, hs⟩
  | x :: r, s => by
    unfold runLS
    refine Spec.bnd (stepS_spec hB hE) fun s1 => (runLS_spec hB hE r s1).mono fun s2 h1 h2 st hs hp => ?_
    obtain ⟨st1, e1, g1⟩ := h2 st hs hp
    obtain ⟨st2, e2, g2⟩ := h1 st1 g1 hp
    exact ⟨st2, by unfold runL; simp only [e1, e2], g2⟩
/-- a region goes on, or panics -/
abbrev RegR (F : Tab) (ρ : Nat → Int) (U : Nat → Vl → Vl) (X : EnvX) (pc : PC) (draw : Bool) (ops : List Oper) (s : SSt) (r : Option SSt × Exits) : Prop := ∀ st, StR F ρ U s st → pcH F ρ U pc →
  (∃ st', regionD X.env draw ops st = some st' ∧ (∃ s', r.1 = some s' ∧ StR F ρ U s' st') ∧ anyX F ρ U r.2 = false) ∨
  (∃ t st', regionD X.env draw ops st = none ∧ panA X draw ops st = some (t, st') ∧ anyX F ρ U r.2 = true ∧ SatX F ρ U r.2 (PB + t) st')
theorem stR_eta {st : St} {s : SSt} (hs : StR F ρ U s st) : (⟨st.tmps, st.heap, true && st.ok⟩ : St) = st := by
  cases st with
  | mk a b c => rfl
theorem regionQ_spec (hB : Base F ρ U) {Q : EnvQ} {X : EnvX} (hQ : EnvQR F ρ U Q X) {pc : PC} {draw : Bool} {ops : List Oper} {s : SSt} : Spec F (regionQ Q pc draw ops s) (RegR F ρ U X pc draw ops s) := by
  unfold regionQ
  split
  · refine Spec.bnd (regionS_spec hB hQ.base) fun s' => Spec.ret fun h1 st hs hp => ?_
    obtain ⟨st', e, g⟩ := h1 st hs hp
    exact .inl ⟨st', e, ⟨s', rfl, g⟩, rfl⟩
  · rename_i pre o rest hsp
    have hops := splitQ_spec hsp
    refine Spec.gd fun hc => ?_
    rw [Bool.and_eq_true] at hc
    have hnew : hasNew ops = false := by simpa using hc.1
    have hg : o.guard = none := by simpa using hc.2
    refine Spec.bnd (runS_spec hB hQ.base pre 0 s) fun s1 => ?_
    -- what has been gone
    have hin : o ∈ ops := by rw [hops]; simp
    have len1 : ∀ st st1, st.heap.length = s.heap.length → runD X.env draw ops (masks ops []) s.heap.length 0 pre st = some st1 → draw = true → st1.heap.length = s.heap.length := fun st st1 hl hr hd => by
      subst hd
      exact (run_len rfl pre 0 st st1 (fun x hx => no_new hnew x (by rw [hops]; simp [hx])) hr).trans hl
    have reg0 : ∀ st st1, st.heap.length = s.heap.length → runD X.env draw ops (masks ops []) s.heap.length 0 pre st = some st1 → regionD X.env draw ops st = (match stepD (X.env.at (draw && laxB ops)) draw (chkD draw (msAt draw ops) s.heap.length pre.length) ops (s.heap.length + pre.length) o st1 with
        | some st2 => runD (X.env.at (draw && laxB ops)) draw ops (msAt draw ops) s.heap.length (pre.length + 1) rest st2
        | none => none) := fun st st1 hl hr => by
      unfold regionD
      rw [hnew, cond_false, hl]
      have : runD (X.env.at (draw && laxB ops)) draw ops (msAt draw ops) s.heap.length 0 ops st = runD (X.env.at (draw && laxB ops)) draw ops (msAt draw ops) s.heap.length 0 (pre ++ o :: rest) st := by rw [← hops]
      show runD (X.env.at (draw && laxB ops)) draw ops (msAt draw ops) s.heap.length 0 ops st = _
      rw [this, runD_append, run_env hnew (fun _ => hl) (fun x hx => by rw [hops]; simp [hx]) hr, Nat.zero_add]
      rfl
    have regD : ∀ st st1 st2 st3, st.heap.length = s.heap.length → runD X.env draw ops (masks ops []) s.heap.length 0 pre st = some st1 → stepD X.env draw (chkD draw (masks ops []) s.heap.length pre.length) ops (s.heap.length + pre.length) o st1 = some st2 →
        runD X.env draw ops (masks ops []) s.heap.length (pre.length + 1) rest st2 = some st3 → regionD X.env draw ops st = some st3 := fun st st1 st2 st3 hl hr h2 h3 => by
      rw [reg0 st st1 hl hr, step_env (len1 st st1 hl hr) hin h2]
      refine run_env hnew (fun hd => ?_) (fun x hx => by rw [hops]; simp [hx]) h3
      have := len1 st st1 hl hr hd
      subst hd
      exact (step_len rfl (no_new hnew o hin) h2).trans this
    have regN : ∀ st st1, st.heap.length = s.heap.length → runD X.env draw ops (masks ops []) s.heap.length 0 pre st = some st1 → (∀ c, stepD (X.env.at (draw && laxB ops)) draw c ops (s.heap.length + pre.length) o st1 = none) →
        regionD X.env draw ops st = none := fun st st1 hl hr h2 => by
      rw [reg0 st st1 hl hr, h2]
    have panE : ∀ st st1, st.heap.length = s.heap.length → runD X.env draw ops (masks ops []) s.heap.length 0 pre st = some st1 → stepD X.env draw (chkD draw (masks ops []) s.heap.length pre.length) ops (s.heap.length + pre.length) o st1 = none →
        panR X draw ops (masks ops []) st.heap.length (tagL 0 ops) st = (match panD X draw st1.tmps st1.heap o.op with
          | some (t, h', k) => some (t, ⟨st1.tmps, h', k && st1.ok⟩, pre.length, tagL (pre.length + 1) rest)
          | none => none) := fun st st1 hl hr hst => by
      rw [hl]
      have : tagL 0 ops = tagL 0 (pre ++ o :: rest) := by rw [← hops]
      rw [this, panR_skip pre (o :: rest) 0 st st1 hr, Nat.zero_add]
      simp only [tagL]
      rw [panR]
      simp only [hst, hg]
      cases panD X draw st1.tmps st1.heap o.op <;> rfl
    have stepE : ∀ E c st1, stepD E draw c ops (s.heap.length + pre.length) o st1 = (match opD E draw c (s.heap.length + pre.length) st1.tmps st1.heap o.op with
        | some r => some ⟨putT st1.tmps o.dst (r.val, r.g), putW st1.heap r.w, r.ok && st1.ok⟩
        | none => none) := fun E c st1 => by
      unfold stepD
      rw [hg]
      cases opD E draw c (s.heap.length + pre.length) st1.tmps st1.heap o.op <;> rfl
    unfold oneQ
    split
    · -- panic
      rename_i x hop
      refine Spec.gd fun hd => Spec.bnd (rdS_spec hB) fun v => ?_
      have hd : draw = false := by simpa using hd
      subst hd
      split
      · rename_i t y
        refine Spec.gd fun hy => Spec.ret fun h1 h2 st hs hp => ?_
        obtain ⟨st1, e1, g1⟩ := h2 st hs hp
        have hl : st.heap.length = s.heap.length := by rw [hs.hp, len_hpc]
        have hst : ∀ E c, stepD E false c ops (s.heap.length + pre.length) o st1 = none := fun E c => by
          rw [stepE, hop]
          rfl
        have ev : evl st1.tmps x = (.iface t y, true) := by
          have := h1 s1.heap st1 g1 hp
          rwa [cv_lit] at this
        refine .inr ⟨t, st1, ?_, ?_, ?_, ?_⟩
        · exact regN st st1 hl e1 (hst _)
        · unfold panA
          rw [hnew, cond_false, panE st st1 hl e1 (hst _ _), hop]
          simp only [panD, ev, hy, cond_true]
          rw [stR_eta g1]
          rfl
        · show (tv F ρ U 1 || false) = true
          rw [hB.t1]; rfl
        · intro q hq _
          rcases List.mem_cons.1 hq with rfl | hq
          · exact ⟨rfl, g1⟩
          · cases hq
      · exact Spec.non
    · -- a call
      rename_i c hop
      split
      · rename_i f hcal
        split
        · exact Spec.non
        · rename_i hext
          have hx0 : X.ext f = none := hQ.base.ext0 f hext
          refine Spec.bnd (rdL_spec hB _) fun l => Spec.gd fun hl0 => ?_
          rw [Bool.and_eq_true] at hl0
          refine Spec.bnd (hQ.call pc f l hl0.2) fun r => Spec.bnd (onP_spec hB r.pan 0) fun p => ?_
          have kr : Spec F (restQ Q.E pc draw ops (masks ops []) s.heap.length pre.length p rest s1) (fun _ => draw = true → calmB (masks ops []) pre.length (tagL 0 ops) = true ∧ (pcH F ρ U pc → tv F ρ U p = true → ∀ st, StR F ρ U s1 st → ∃ st2, runL X.env ops (masks ops []) s.heap.length ((tagL (pre.length + 1) rest).filter (freeOf (masks ops []) pre.length)) st = some st2 ∧ st2.ok = true)) := by
            unfold restQ
            refine Spec.bif (fun hd => Spec.gd fun hcm => Spec.bnd (runLS_spec hB hQ.base _ s1) fun s2 => Spec.ret fun h1 _ => ⟨hcm, fun hp ht st hs => ?_⟩) fun hd => Spec.ret fun hd' => by rw [hd] at hd'; cases hd'
            obtain ⟨st2, e2, g2⟩ := h1 st hs (hp.cons ht)
            exact ⟨st2, e2, g2.ok⟩
          refine Spec.bnd kr fun _ => ?_
          have hA : (cvl F ρ U l).all plainB = true := (all_cvl plainS_spec _).trans hl0.1
          -- the operands
          have opE : ∀ h st1, StR F ρ U ⟨s1.tmps, h⟩ st1 → pcH F ρ U pc → (∀ h st, StR F ρ U ⟨s1.tmps, h⟩ st → pcH F ρ U pc → c.args.toList.map (evl st.tmps) = (cvl F ρ U l).map fun v => (v, true)) →
              (c.args.toList.map fun x => (evl st1.tmps x).1) = cvl F ρ U l ∧ (c.args.toList.all fun x => (evl st1.tmps x).2) = true := fun h st1 hs hp h4 => fst_all (h4 h st1 hs hp)
          have ef : ∀ st1 : St, evl st1.tmps (.func f) = (.func (.func f) #[] #[], true) := fun _ => rfl
          -- where it panics
          have panics : ∀ st, StR F ρ U s st → pcH F ρ U pc → tv F ρ U p = (onB F ρ U r.pan || tv F ρ U 0) → onB F ρ U r.pan = true → CallQR F ρ U X f l r →
              (draw = true → calmB (masks ops []) pre.length (tagL 0 ops) = true ∧ (pcH F ρ U pc → tv F ρ U p = true → ∀ st, StR F ρ U s1 st → ∃ st2, runL X.env ops (masks ops []) s.heap.length ((tagL (pre.length + 1) rest).filter (freeOf (masks ops []) pre.length)) st = some st2 ∧ st2.ok = true)) →
              (∀ h st, StR F ρ U ⟨s1.tmps, h⟩ st → pcH F ρ U pc → c.args.toList.map (evl st.tmps) = (cvl F ρ U l).map fun v => (v, true)) → StepR F ρ U pc s (runD X.env draw ops (masks ops []) s.heap.length 0 pre) s1 →
              ∃ t st', regionD X.env draw ops st = none ∧ panA X draw ops st = some (t, st') ∧ anyX F ρ U (exitsP (panS draw ops s s1) r.pan) = true ∧ SatX F ρ U (exitsP (panS draw ops s s1) r.pan) (PB + t) st' := fun st hs hp hpe hon hcr hrest h4 h5 => by
            obtain ⟨st1, e1, g1⟩ := h5 st hs hp
            have hl : st.heap.length = s.heap.length := by rw [hs.hp, len_hpc]
            obtain ⟨a1, a2⟩ := opE s1.heap st1 g1 hp h4
            obtain ⟨q, hq, hqt⟩ := List.any_eq_true.1 hon
            obtain ⟨h', hcall⟩ := hcr.pan q hq hqt
            obtain ⟨k1, k2⟩ := callD_pan (draw := draw) (h := st1.heap) hx0 hA hcall
            have hstb : ∀ b c, stepD (X.env.at b) draw c ops (s.heap.length + pre.length) o st1 = none := fun b c => by
              rw [stepE, hop]
              simp only [opD, hcal, ef st1, a1, a2, Bool.and_self, k1]
            have hst : stepD X.env draw (chkD draw (masks ops []) s.heap.length pre.length) ops (s.heap.length + pre.length) o st1 = none := hstb false _
            have hpd : panD X draw st1.tmps st1.heap o.op = some (q.2, st1.heap, true) := by
              rw [hop]
              simp only [panD, hcal, ef st1, a1, a2, Bool.and_self, k2]
            have hall : ∀ sp st', StR F ρ U sp st' → SatX F ρ U (exitsP sp r.pan) (PB + q.2) st' := fun sp st' hst' x hx ht => by
              obtain ⟨y, hy, rfl⟩ := List.mem_map.1 hx
              obtain ⟨h2, hcall2⟩ := hcr.pan y hy ht
              rw [hcall] at hcall2
              simp only [Option.some.injEq, Prod.mk.injEq, Res.pan.injEq] at hcall2
              exact ⟨by rw [hcall2.1], hst'⟩
            have hany : ∀ sp, anyX F ρ U (exitsP sp r.pan) = true := fun sp => by rw [exitsP_any]; exact hon
            have hpan := panE st st1 hl e1 hst
            rw [hpd] at hpan
            dsimp only at hpan
            rw [stR_eta g1] at hpan
            have hnone : regionD X.env draw ops st = none := regN st st1 hl e1 (hstb _)
            cases draw with
            | false =>
              refine ⟨q.2, st1, hnone, ?_, hany _, hall s1 st1 g1⟩
              unfold panA
              rw [hnew, cond_false, hpan]
              rfl
            | true =>
              obtain ⟨hcm, hfr⟩ := hrest rfl
              obtain ⟨st2, e2, o2⟩ := hfr hp (by rw [hpe, hon]; rfl) st1 g1
              refine ⟨q.2, ⟨blankT ops st.tmps, st.heap, true⟩, hnone, ?_, hany _, hall _ _ ?_⟩
              · unfold panA
                rw [hnew, cond_false, hpan]
                simp only [cond_true]
                rw [hl, e2]
                simp only [hcm, o2, Bool.and_self, cond_true]
              · have := blank_spec (dstsOf ops) s.tmps st hs
                rw [hs.ok] at this
                exact this
          unfold goOnQ
          split
          · rename_i hnorm
            refine Spec.bnd (needS_spec hB) fun _ => Spec.ret fun h0 h1 h2 h3 h4 h5 st hs hp => .inr ?_
            have hpt := h0 hp
            have hon : onB F ρ U r.pan = true := by rw [h2, hB.t0, Bool.or_false] at hpt; exact hpt
            exact panics st hs hp h2 hon (h3 hp) h1 h4 h5
          · rename_i v hnorm
            refine Spec.gd fun hv => Spec.bnd (runS_spec hB hQ.base rest (pre.length + 1) _) fun s3 => Spec.ret fun h0 h1 h2 h3 h4 h5 st hs hp => ?_
            cases hon : onB F ρ U r.pan with
            | true => exact .inr (panics st hs hp h2 hon (h3 hp) h1 h4 h5)
            | false =>
              obtain ⟨st1, e1, g1⟩ := h5 st hs hp
              have hl : st.heap.length = s.heap.length := by rw [hs.hp, len_hpc]
              obtain ⟨a1, a2⟩ := opE s1.heap st1 g1 hp h4
              obtain ⟨v', hv', h', hcall⟩ := (h3 hp).val hon
              rw [hnorm] at hv'
              cases hv'
              have hpv : plainB (cv F ρ U v) = true := (plainS_spec _).trans hv
              have k1 := callD_val (draw := draw) (h := st1.heap) hx0 hA hcall hpv
              have hst : stepD X.env draw (chkD draw (masks ops []) s.heap.length pre.length) ops (s.heap.length + pre.length) o st1 = some ⟨putT st1.tmps o.dst (cv F ρ U v, true), st1.heap, true && st1.ok⟩ := by
                rw [stepE, hop]
                simp only [opD, hcal, ef st1, a1, a2, Bool.and_self, k1]
                rfl
              have g2 : StR F ρ U ⟨slots s1.tmps o.dst (some (v, 1)), s1.heap⟩ ⟨putT st1.tmps o.dst (cv F ρ U v, true), st1.heap, true && st1.ok⟩ := by
                refine ⟨by show (true && st1.ok) = true; rw [g1.ok]; rfl, lenR g1.len _ _ _, slots_spec g1.len g1.tm ?_, g1.hp⟩
                intro w d hw
                cases hw
                rw [hB.t1]; rfl
              obtain ⟨st3, e3, g3⟩ := h0 _ g2 (hp.cons (by rw [h2, hon, hB.t0]; rfl))
              refine .inl ⟨st3, ?_, ⟨s3, rfl, g3⟩, by rw [exitsP_any]; exact hon⟩
              exact regD st st1 _ _ hl e1 hst e3
      · exact Spec.non
    · exact Spec.non
end
end Sx
end
noncomputable section
namespace Sx
open Go Ev

def exMap : ExP → Ex
  | .normal => .normal
  | .exit id => .exit id
  | .ret => .ret
  | .pan t => .exit (PB + t)
def wfE : ExP → Prop
  | .exit id => id < PB
  | _ => True
section
variable {F : Tab} {ρ : Nat → Int} {U : Nat → Vl → Vl} {α : Type}
abbrev CodeQ (F : Tab) (ρ : Nat → Int) (U : Nat → Vl → Vl) {α : Type} (RR : RelR) (pc : PC) (s : SSt) (f : St → (ExP → St → Option α) → Option α) (o : OutS) : Prop :=
  ∀ st, StR F ρ U s st → pcH F ρ U pc → ∃ e st', OutR F ρ U RR o (exMap e) st' ∧ wfE e ∧ ∀ k, f st k = k e st'
theorem exThenQ_spec (hB : Base F ρ U) {keep : Keep} {RR : RelR} (hR : RelOk F ρ U keep RR) {go : ExF} {b : Code} {g : St → (ExP → St → Option α) → Option α} (hgo : ∀ pc s, Spec F (go b pc s) (CodeQ F ρ U RR pc s g)) {pc : PC} {o : OutS} :
    Spec F (exThen go keep b pc o) (fun o' => ∀ e st, pcH F ρ U pc → OutR F ρ U RR o (exMap e) st → wfE e → ∃ e' st', OutR F ρ U RR o' (exMap e') st' ∧ wfE e' ∧ ∀ k : ExP → St → Option α, (match e with | .normal => g st k | e => k e st) = k e' st') := by
  unfold exThen
  split
  · rename_i r xs
    refine Spec.ret fun e st _ h hw => ⟨e, st, h, hw, fun k => ?_⟩
    cases e with
    | normal =>
      obtain ⟨⟨s, hs, _⟩, _⟩ := h
      cases hs
    | exit id => rfl
    | ret => rfl
    | pan t => rfl
  · rename_i s1 r xs
    refine Spec.bnd (outG_spec hB) fun gd => ?_
    unfold exNext
    refine Spec.bif (fun h0 => ?_) fun h0 => ?_
    · refine (hgo pc s1).mono fun o' h1 h2 e st hp h hw => ?_
      rw [beqT h0, hB.t0] at h2
      have off : ∀ id, OutR F ρ U RR ⟨some s1, r, xs⟩ (.exit id) st → False := fun id h => by
        have : anyX F ρ U xs = true := h.2.1
        rw [this] at h2; cases h2
      cases e with
      | normal =>
        obtain ⟨⟨s, hs, hst⟩, _⟩ := h
        cases hs
        exact h1 st hst hp
      | exit id => exact (off id h).elim
      | pan t => exact (off _ h).elim
      | ret =>
        have : onR F ρ U r = true := h.2.1
        rw [this, Bool.or_true] at h2; cases h2
    · refine Spec.bnd (try_spec (hgo _ s1)) fun o2 => ?_
      unfold exAfter
      split
      case h_2 =>
        refine Spec.bnd (needS_spec hB) fun _ => Spec.ret fun h0 _ h2 e st hp h hw => ?_
        have hg := h0 hp
        cases e with
        | normal =>
          obtain ⟨_, k1, k2⟩ := h
          have k1 : onR F ρ U r = false := k1
          have k2 : anyX F ρ U xs = false := k2
          rw [hg, k1, k2] at h2
          cases h2
        | exit id => exact ⟨.exit id, st, h, hw, fun k => rfl⟩
        | pan t => exact ⟨.pan t, st, h, hw, fun k => rfl⟩
        | ret => exact ⟨.ret, st, h, hw, fun k => rfl⟩
      rename_i o2
      refine (joinO_spec hB hR).mono fun o' hj h1 h2 e st hp h hw => ?_
      obtain ⟨hn, hj⟩ := hj
      have hj' : JoinR F ρ U RR gd (⟨none, r, xs⟩ : OutS).ret o2.ret (⟨none, r, xs⟩ : OutS).exits o2.exits o' := hj
      have out : ∀ id, OutR F ρ U RR ⟨some s1, r, xs⟩ (.exit id) st → OutR F ρ U RR o' (.exit id) st := fun id h => by
        obtain ⟨k1, k2, k3⟩ := h
        have k2' : anyX F ρ U xs = true := k2
        have hg : tv F ρ U gd = true := by rw [h2, k2']; rfl
        refine join_left hj' (fun st hh => ?_) hg ⟨k1, k2, k3⟩
        obtain ⟨s, hs, _⟩ := hh
        cases hs
      cases e with
      | normal =>
        obtain ⟨⟨s, hs, hst⟩, k1, k2⟩ := h
        cases hs
        have k1 : onR F ρ U r = false := k1
        have k2 : anyX F ρ U xs = false := k2
        have hg : tv F ρ U gd = false := by rw [h2, k1, k2]; rfl
        obtain ⟨e', st', q1, q2, q3⟩ := h1 o2 rfl st hst (hp.cons hg)
        exact ⟨e', st', join_right hj' (fun st hh => by rw [hn]; exact hh) hg q1, q2, q3⟩
      | exit id => exact ⟨.exit id, st, out id h, hw, fun k => rfl⟩
      | pan t => exact ⟨.pan t, st, out _ h, hw, fun k => rfl⟩
      | ret =>
        obtain ⟨k1, k2, k3⟩ := h
        have k2' : onR F ρ U r = true := k2
        have hg : tv F ρ U gd = true := by rw [h2, k2', Bool.or_true]
        refine ⟨.ret, st, join_left hj' (fun st hh => ?_) hg ⟨k1, k2, k3⟩, hw, fun k => rfl⟩
        obtain ⟨s, hs, _⟩ := hh
        cases hs
theorem execQ_spec (hB : Base F ρ U) {Q : EnvQ} {X : EnvX} (hQ : EnvQR F ρ U Q X) {keep : Keep} {RR : RelR} (hR : RelOk F ρ U keep RR) {res : PC → SSt → M (List SV)}
    (hres : ∀ pc s, Spec F (res pc s) (fun l => ∀ st, StR F ρ U s st → pcH F ρ U pc → RR l (keepH keep s.heap) st)) :
    ∀ (n : Nat) (c : Code) (pc : PC) (s : SSt), Spec F (execQ Q keep res n c pc s) (CodeQ F ρ U (α := α) RR pc s (codeP X n c))
  | 0, _, _, _ => Spec.non
  | n + 1, c, pc, s => by
    have ih := execQ_spec hB hQ hR hres n
    unfold execQ
    split
    · exact Spec.ret fun st hs _ => ⟨.normal, st, ⟨⟨s, rfl, hs⟩, rfl, rfl⟩, trivial, fun k => rfl⟩
    · rename_i id ops draw
      refine Spec.bnd (regionQ_spec hB hQ) fun r => Spec.ret fun h st hs hp => ?_
      rcases h st hs hp with ⟨st', e1, ⟨s', e2, e3⟩, e4⟩ | ⟨t, st', e1, e2, e3, e4⟩
      · refine ⟨.normal, st', ⟨⟨s', e2, e3⟩, rfl, e4⟩, trivial, fun k => ?_⟩
        simp only [codeP, e1]
      · refine ⟨.pan t, st', ⟨rfl, e3, e4⟩, trivial, fun k => ?_⟩
        simp only [codeP, e1, e2]
    · rename_i a b
      refine Spec.bnd (ih a pc s) fun o => (exThenQ_spec hB hR (fun pc s => ih b pc s)).mono fun o' h1 h2 st hs hp => ?_
      obtain ⟨e, st1, q1, q2, q3⟩ := h2 st hs hp
      obtain ⟨e', st2, q4, q5, q6⟩ := h1 e st1 hp q1 q2
      refine ⟨e', st2, q4, q5, fun k => ?_⟩
      rw [← q6 k, codeP, q3]
      cases e <;> rfl
    · rename_i x a b
      refine Spec.bnd (rdS_spec hB) fun v => ?_
      unfold exCond
      refine Spec.bnd (optB hB) fun f0 => Spec.bnd (knowS_spec hB) fun f => ?_
      have key : ∀ st, StR F ρ U s st → pcH F ρ U pc → (pcH F ρ U pc → tv F ρ U f = tv F ρ U f0) → cv F ρ U v = .bool (tv F ρ U f0) → (∀ h st, StR F ρ U ⟨s.tmps, h⟩ st → pcH F ρ U pc → evl st.tmps x = (cv F ρ U v, true)) → ∀ k : ExP → St → Option α, codeP X (n + 1) (.cond x a b) st k = bif tv F ρ U f then codeP X n a st k else codeP X n b st k := fun st hs hp h0 h1 h2 k => by
        have e := h2 s.heap st hs hp
        rw [h1, ← h0 hp] at e
        simp only [codeP, e, st_ok hs.ok]
      refine Spec.bif (fun hz => ?_) fun _ => Spec.bif (fun hz => ?_) fun _ => ?_
      · refine (ih a pc s).mono fun o h1 h0 h2 h3 st hs hp => ?_
        obtain ⟨e, st', q1, q2, q3⟩ := h1 st hs hp
        refine ⟨e, st', q1, q2, fun k => ?_⟩
        rw [key st hs hp h0 h2 h3, beqT hz, hB.t1, cond_true, q3]
      · refine (ih b pc s).mono fun o h1 h0 h2 h3 st hs hp => ?_
        obtain ⟨e, st', q1, q2, q3⟩ := h1 st hs hp
        refine ⟨e, st', q1, q2, fun k => ?_⟩
        rw [key st hs hp h0 h2 h3, beqT hz, hB.t0, cond_false, q3]
      · refine Spec.bnd (try_spec (ih a _ s)) fun oa => ?_
        unfold exElse
        split
        · rename_i oa
          refine Spec.bnd (try_spec (ih b _ s)) fun ob => ?_
          unfold exBoth
          split
          · rename_i ob
            refine Spec.bnd (normO_spec hB) fun nm => (joinO_spec hB hR).mono fun o hj h1 h2 h3 h0 h4 h5 st hs hp => ?_
            obtain ⟨hn, hj⟩ := hj
            cases hf : tv F ρ U f with
            | true =>
              obtain ⟨e, st', q1, q2, q3⟩ := h3 _ rfl st hs (hp.cons hf)
              refine ⟨e, st', join_left hj (fun st hh => ?_) hf q1, q2, fun k => ?_⟩
              · rw [hn]; exact h1 st (.inl ⟨hf, hh⟩)
              · rw [key st hs hp h0 h4 h5, hf, cond_true, q3]
            | false =>
              obtain ⟨e, st', q1, q2, q3⟩ := h2 _ rfl st hs (hp.cons hf)
              refine ⟨e, st', join_right hj (fun st hh => ?_) hf q1, q2, fun k => ?_⟩
              · rw [hn]; exact h1 st (.inr ⟨hf, hh⟩)
              · rw [key st hs hp h0 h4 h5, hf, cond_false, q3]
          · refine Spec.bnd (needS_spec hB) fun _ => Spec.ret fun h1 h2 h3 h0 h4 h5 st hs hp => ?_
            have hf := h1 hp
            obtain ⟨e, st', q1, q2, q3⟩ := h3 _ rfl st hs (hp.cons hf)
            refine ⟨e, st', q1, q2, fun k => ?_⟩
            rw [key st hs hp h0 h4 h5, hf, cond_true, q3]
        · refine Spec.bnd (notS_spec hB) fun nf => Spec.bnd (needS_spec hB) fun _ => (ih b _ s).mono fun o h1 h2 h3 h4 h0 h5 h6 st hs hp => ?_
          have hf : tv F ρ U f = false := by
            have := h2 hp
            rw [h3] at this
            simpa using this
          obtain ⟨e, st', q1, q2, q3⟩ := h1 st hs (hp.cons hf)
          refine ⟨e, st', q1, q2, fun k => ?_⟩
          rw [key st hs hp h0 h5 h6, hf, cond_false, q3]
    · rename_i id a
      refine Spec.gd fun hid => Spec.bnd (ih a pc s) fun o => ?_
      have hid : id < PB := bltT hid
      unfold exBlock
      refine Spec.bnd (catchX_spec hB _ _) fun q => Spec.ret fun ⟨h1, h2, h3⟩ h4 st hs hp => ?_
      obtain ⟨e, st', q1, q2, q3⟩ := h4 st hs hp
      have ck : ∀ k : ExP → St → Option α, codeP X (n + 1) (.block id a) st k = (match e with | .exit j => bif Nat.beq j id then k .normal st' else k (.exit j) st' | e => k e st') := fun k => by
        rw [codeP, q3]
        cases e <;> rfl
      cases e with
      | normal =>
        obtain ⟨k1, k2, k3⟩ := q1
        exact ⟨.normal, st', ⟨h1 st' (SatX.off k3 id st') (.inr k1), k2, h2 st' (SatX.off k3 id st')⟩, trivial, ck⟩
      | exit j =>
        obtain ⟨k1, k2, k3⟩ := q1
        by_cases hj : j = id
        · subst hj
          refine ⟨.normal, st', ⟨h1 st' k3 (.inl k2), k1, h2 st' k3⟩, trivial, fun k => ?_⟩
          rw [ck]
          dsimp only
          rw [Nat.beq_refl, cond_true]
        · obtain ⟨a1, a2⟩ := h3 j st' hj k3
          refine ⟨.exit j, st', ⟨k1, a1.trans k2, a2⟩, q2, fun k => ?_⟩
          rw [ck]
          dsimp only
          have : Nat.beq j id = false := by
            cases hb : Nat.beq j id with
            | false => rfl
            | true => exact absurd (beqT hb) hj
          rw [this, cond_false]
      | pan t =>
        obtain ⟨k1, k2, k3⟩ := q1
        obtain ⟨a1, a2⟩ := h3 (PB + t) st' (by omega) k3
        exact ⟨.pan t, st', ⟨k1, a1.trans k2, a2⟩, trivial, ck⟩
      | ret =>
        obtain ⟨k1, k2, k3⟩ := q1
        exact ⟨.ret, st', ⟨h2 st' (SatX.off k1 id st'), k2, k3⟩, trivial, ck⟩
    · rename_i a
      refine Spec.bnd (ih a pc s) fun o => (exThenQ_spec hB hR (fun pc s => ih (.loop a) pc s)).mono fun o' h1 h2 st hs hp => ?_
      obtain ⟨e, st1, q1, q2, q3⟩ := h2 st hs hp
      obtain ⟨e', st2, q4, q5, q6⟩ := h1 e st1 hp q1 q2
      refine ⟨e', st2, q4, q5, fun k => ?_⟩
      rw [← q6 k, codeP, q3]
      cases e <;> rfl
    · rename_i id
      refine Spec.gd fun hid => Spec.ret fun st hs _ => ⟨.exit id, st, ⟨rfl, ?_, fun x hx _ => ?_⟩, bltT hid, fun k => rfl⟩
      · show (tv F ρ U 1 || false) = true
        rw [hB.t1]; rfl
      · rcases List.mem_cons.1 hx with rfl | hx
        · exact ⟨rfl, hs⟩
        · cases hx
    · rename_i a
      refine (ih a pc s).mono fun o h1 st hs hp => ?_
      obtain ⟨e, st', q1, q2, q3⟩ := h1 st hs hp
      exact ⟨e, st', q1, q2, fun k => by rw [codeP, q3]⟩
    · exact Spec.ret fun st hs _ => ⟨.normal, st, ⟨⟨s, rfl, hs⟩, rfl, rfl⟩, trivial, fun k => rfl⟩
    · refine Spec.bnd (hres pc s) fun l => Spec.ret fun h st hs hp => ?_
      refine ⟨.ret, st, ⟨rfl, ?_, fun q hq _ => ?_⟩, trivial, fun k => rfl⟩
      · show (tv F ρ U 1 || false) = true
        rw [hB.t1]; rfl
      · rcases List.mem_cons.1 hq with rfl | hq
        · exact h st hs hp
        · cases hq
    · exact Spec.non
/-- the panics among the ways out -/
theorem pansOf_spec : ∀ {xs : Exits} {l : List (Nat × TypeId)}, pansOf xs = some l → onB F ρ U l = anyX F ρ U xs ∧ (∀ x ∈ xs, PB ≤ x.1) ∧ ∀ q ∈ l, ∃ x ∈ xs, x.2.1 = q.1 ∧ x.1 = PB + q.2
  | [], l, h => by cases h; exact ⟨rfl, fun _ hx => (by cases hx), fun _ hq => by cases hq⟩
  | (id, g, s) :: r, l, h => by
    unfold pansOf at h
    cases hi : Nat.ble PB id with
    | false => rw [hi] at h; cases h
    | true =>
      rw [hi, cond_true] at h
      split at h
      · rename_i m hm
        cases h
        obtain ⟨h1, h2, h3⟩ := pansOf_spec (xs := r) hm
        have hle := Nat.le_of_ble_eq_true hi
        refine ⟨?_, fun x hx => ?_, fun q hq => ?_⟩
        · show (tv F ρ U g || onB F ρ U m) = (tv F ρ U g || anyX F ρ U r)
          rw [h1]
        · rcases List.mem_cons.1 hx with rfl | hx
          · exact hle
          · exact h2 x hx
        · rcases List.mem_cons.1 hq with rfl | hq
          · exact ⟨(id, g, s), List.mem_cons_self, rfl, by show id = PB + (id - PB); omega⟩
          · obtain ⟨x, hx, hh⟩ := h3 q hq
            exact ⟨x, List.mem_cons_of_mem _ hx, hh⟩
      · cases h
/-- the returns, and the end, as one -/
theorem normQ_spec (hB : Base F ρ U) {keep : Keep} {RR : RelR} (hR : RelOk F ρ U keep RR) {res : PC → SSt → M (List SV)}
    (hres : ∀ pc s, Spec F (res pc s) (fun l => ∀ st, StR F ρ U s st → pcH F ρ U pc → RR l (keepH keep s.heap) st)) {pc : PC} {o : OutS} :
    Spec F (normQ keep res pc o) (fun q => ∀ e st, pcH F ρ U pc → OutR F ρ U RR o e st → (∀ id, e ≠ .exit id) → ∃ m, q = some m ∧ RR m.2.1 m.2.2 st) := by
  unfold normQ
  split
  · rename_i hn hr
    refine Spec.ret fun e st hp h hne => ?_
    cases e with
    | normal =>
      obtain ⟨⟨s, hs, _⟩, _⟩ := h
      rw [hn] at hs; cases hs
    | exit id => exact absurd rfl (hne id)
    | ret =>
      have := h.2.1
      rw [hr] at this; cases this
  · rename_i q r hn hr
    refine Spec.bnd (foldR_spec hB hR q r) fun m => Spec.ret fun hm e st hp h hne => ?_
    obtain ⟨m1, m2⟩ := hm
    cases e with
    | normal =>
      obtain ⟨⟨s, hs, _⟩, _⟩ := h
      rw [hn] at hs; cases hs
    | exit id => exact absurd rfl (hne id)
    | ret =>
      obtain ⟨_, k1, k2⟩ := h
      rw [hr] at k1 k2
      exact ⟨m, rfl, m2 st k2 (m1.trans k1)⟩
  · rename_i s hn
    refine Spec.bnd (outG_spec hB) fun g => Spec.bnd (hres _ s) fun l => ?_
    split
    · rename_i hr
      refine Spec.ret fun h1 h2 e st hp h hne => ⟨_, rfl, ?_⟩
      cases e with
      | normal =>
        obtain ⟨⟨s', hs, k1⟩, k2, k3⟩ := h
        rw [hn] at hs; cases hs
        rw [hr] at k2
        rw [hr, k3, k2] at h2
        exact h1 st k1 (hp.cons h2)
      | exit id => exact absurd rfl (hne id)
      | ret =>
        have := h.2.1
        rw [hr] at this; cases this
    · rename_i q r' hr
      refine Spec.bnd (foldR_spec hB hR q r') fun m => Spec.bnd (join2_spec hB hR m _) fun m' => Spec.ret fun ⟨h1, h2⟩ ⟨m1, m2⟩ h3 h4 e st hp h hne => ⟨_, rfl, ?_⟩
      have hon : tv F ρ U m'.1 = true := by
        rw [h1]
        show (_ || tv F ρ U 1) = true
        rw [hB.t1, Bool.or_true]
      cases e with
      | normal =>
        obtain ⟨⟨s', hs, k1⟩, k2, k3⟩ := h
        rw [hn] at hs; cases hs
        rw [k3, k2] at h4
        rw [hr] at k2
        have k2 : tv F ρ U m.1 = false := m1.trans k2
        exact h2 st (fun hh => by rw [k2] at hh; cases hh) (fun _ _ => h3 st k1 (hp.cons h4)) hon
      | exit id => exact absurd rfl (hne id)
      | ret =>
        obtain ⟨_, k1, k2⟩ := h
        rw [hr] at k1 k2
        have k3 : tv F ρ U m.1 = true := m1.trans k1
        exact h2 st (fun hh => m2 st k2 hh) (fun hh => by rw [k3] at hh; cases hh) hon
end
end Sx
end
noncomputable section
namespace Sx
open Go Ev

section
variable {F : Tab} {ρ : Nat → Int} {U : Nat → Vl → Vl}
theorem finQ_spec (hB : Base F ρ U) {RR : RelR} (hR : RelOk F ρ U .no RR) {res : PC → SSt → M (List SV)}
    (hres : ∀ pc s, Spec F (res pc s) (fun l => ∀ st, StR F ρ U s st → pcH F ρ U pc → RR l (keepH .no s.heap) st)) {pc : PC} {o : OutS} :
    Spec F (finQ res pc o) (fun r => ∀ e st, pcH F ρ U pc → OutR F ρ U RR o (exMap e) st → wfE e → (∀ id, e ≠ .exit id) ∧ (∀ t, e = .pan t → onB F ρ U r.pan = true) ∧ (∀ q ∈ r.pan, tv F ρ U q.1 = true → e = .pan q.2) ∧
      ((∀ t, e ≠ .pan t) → ∃ l h, r.norm = some (oneOrS l) ∧ RR l h st)) := by
  unfold finQ
  refine Spec.bnd Spec.opt fun pans => Spec.bnd (normQ_spec hB hR hres) fun q => Spec.ret fun hn hp e st hpc h hw => ?_
  obtain ⟨p1, p2, p3⟩ := pansOf_spec (F := F) (ρ := ρ) (U := U) hp
  have quiet : anyX F ρ U o.exits = false → ∀ x ∈ pans, tv F ρ U x.1 = true → False := fun ha x hx ht => by
    have : onB F ρ U pans = true := List.any_eq_true.2 ⟨x, hx, ht⟩
    rw [p1, ha] at this; cases this
  have done : (∀ id, exMap e ≠ .exit id) → ∃ l h, (q.map fun q => oneOrS q.2.1) = some (oneOrS l) ∧ RR l h st := fun hne => by
    obtain ⟨m, hm, hr⟩ := hn (exMap e) st hpc h hne
    exact ⟨m.2.1, m.2.2, by rw [hm]; rfl, hr⟩
  cases e with
  | exit id =>
    obtain ⟨_, k2, k3⟩ := h
    obtain ⟨x, hx, hxt⟩ := List.any_eq_true.1 k2
    have h1 := (k3 x hx hxt).1
    have h2 := p2 x hx
    have h3 : id < PB := hw
    omega
  | normal =>
    refine ⟨fun id e => (by cases e), fun t e => (by cases e), fun x hx ht => (quiet h.2.2 x hx ht).elim, fun _ => done fun id e => (by cases e)⟩
  | ret =>
    refine ⟨fun id e => (by cases e), fun t e => (by cases e), fun x hx ht => (quiet h.1 x hx ht).elim, fun _ => done fun id e => (by cases e)⟩
  | pan t =>
    obtain ⟨_, k2, k3⟩ := h
    refine ⟨fun id e => (by cases e), fun t e => p1.trans k2, fun x hx ht => ?_, fun hh => absurd rfl (hh t)⟩
    obtain ⟨y, hy, hy1, hy2⟩ := p3 x hx
    have := (k3 y hy (by rw [hy1]; exact ht)).1
    rw [hy2] at this
    rw [Nat.add_left_cancel this]
theorem disB_spec {us ps : List FuncId} {orc : List (Nat × SymF)} (h : disB us ps orc = true) {f : FuncId} (hf : ps.any (Nat.beq f) = true) : us.any (Nat.beq f) = false ∧ seekS f orc = none := by
  obtain ⟨g, hg, hgf⟩ := List.any_eq_true.1 hf
  have := Nat.eq_of_beq_eq_true hgf
  subst this
  have := List.all_eq_true.1 h f hg
  simp only [Bool.and_eq_true, Bool.not_eq_true'] at this
  exact ⟨this.1, by simpa using this.2⟩
theorem valX_low {P : Program} {exte orce : Orc} {us ps : List FuncId} {cf d : Nat} {f : FuncId} {A : List Value} {h : Heap} (hf : ps.any (Nat.beq f) = false) : ∀ e, valX (funPL P exte orce us ps cf d e) f A h = funD P exte orce us cf d f A h := fun e => by
  have : funPL P exte orce us ps cf d e f A h = liftX (funD P exte orce us cf d) f A h := by
    cases e with
    | zero => simp only [funPL, hf, cond_false]
    | succ e => simp only [funPL, hf, cond_false]
  unfold valX
  rw [this]
  unfold liftX
  cases funD P exte orce us cf d f A h with
  | none => rfl
  | some r => rfl
theorem baseQ (hB : Base F ρ U) {P : Program} {ext orc : List (Nat × SymF)} {exte orce : Orc} {us ps : List FuncId} {cf d : Nat} (hx : ListR F ρ U ext exte) (ho : ListR F ρ U orc orce) (hd : disB us ps orc = true) (e : Nat) :
    EnvR F ρ U ⟨P, fun f => seekS f ext, funS P ext orc us cf d, false⟩ (EnvX.env ⟨P, exte, funPL P exte orce us ps cf d e⟩) := by
  refine ⟨rfl, rfl, rfl, FrnR.no, hx.h0, fun id g he pc args => ?_, fun keep pc f args h => ?_⟩
  · obtain ⟨G, g1, g2⟩ := hx.h1 id g he
    exact (g2 pc args).mono fun v hv hp => ⟨G, g1, hv hp⟩
  · cases hf : ps.any (Nat.beq f) with
    | false =>
      refine (funS_spec hB FrnR.no hx ho d keep pc f args h).mono fun r h1 hp => ?_
      obtain ⟨h', e1, e2⟩ := h1 hp
      exact ⟨h', (valX_low hf e).trans e1, e2⟩
    | true =>
      obtain ⟨d1, d2⟩ := disB_spec hd hf
      cases d with
      | zero => exact Spec.non
      | succ d =>
        show Spec F (funS P ext orc us cf (d + 1) keep pc f args h) _
        unfold funS
        rw [d2]
        dsimp only
        rw [d1, cond_false]
        exact Spec.non
theorem funQ_spec (hB : Base F ρ U) {P : Program} {ext orc : List (Nat × SymF)} {exte orce : Orc} {us ps : List FuncId} {cf d : Nat} (hx : ListR F ρ U ext exte) (ho : ListR F ρ U orc orce) (hd : disB us ps orc = true) :
    ∀ (e : Nat), EnvQR F ρ U (envQ P ext orc us ps cf d e) ⟨P, exte, funPL P exte orce us ps cf d e⟩
  | 0 => ⟨baseQ hB hx ho hd 0, fun _ _ _ _ => Spec.non⟩
  | e + 1 => by
    refine ⟨baseQ hB hx ho hd (e + 1), fun pc f args hf => ?_⟩
    have hf : ps.any (Nat.beq f) = true := hf
    show Spec F (funQ P ext orc us ps cf d (e + 1) pc f args) _
    unfold funQ
    split
    · rename_i fn h1
      split
      · rename_i c h2
        have hres : ∀ pc s, Spec F (resS P fn.results.toList pc s) (fun l => ∀ st, StR F ρ U s st → pcH F ρ U pc → RetR F ρ U P fn.results.toList .no l (keepH .no s.heap) st) := fun pc s =>
          (resS_spec hB fn.results.toList pc s).mono fun l hl st hs hp => ⟨hs.ok, hl st hs hp, trivial⟩
        refine Spec.gd fun hn => ?_
        rw [startC_eq]
        refine Spec.bnd (execQ_spec (α := Res × Heap × Bool) hB (funQ_spec hB hx ho hd e) retR_ok hres cf c pc _) fun o => (finQ_spec hB retR_ok hres).mono fun r h3 h4 hp => ?_
        obtain ⟨ex, st, q1, q2, q3⟩ := h4 _ (start_spec (h := []) hB (Nat.le_of_ble_eq_true hn)) hp
        obtain ⟨k1, k2, k3, k4⟩ := h3 ex st hp q1 q2
        have hcall : funPL P exte orce us ps cf d (e + 1) f (cvl F ρ U args) [] = finX P fn ex st := by
          simp only [funPL, hf, cond_true, h1, h2]
          exact q3 _
        have hcall : (⟨P, exte, funPL P exte orce us ps cf d (e + 1)⟩ : EnvX).call f (cvl F ρ U args) [] = finX P fn ex st := hcall
        have hnp : onB F ρ U r.pan = false → ∀ t, ex ≠ .pan t := fun hon t he => by
          rw [k2 t he] at hon; cases hon
        refine ⟨fun hon => ?_, fun q hq ht => ?_⟩
        · obtain ⟨l, h, e1, e2⟩ := k4 (hnp hon)
          refine ⟨_, e1, st.heap, ?_⟩
          rw [hcall, ← oneOr_spec]
          cases ex with
          | normal => unfold finX; simp only [e2.res, e2.ok]; rfl
          | ret => unfold finX; simp only [e2.res, e2.ok]; rfl
          | exit id => exact absurd rfl (k1 id)
          | pan t => exact absurd rfl (hnp hon t)
        · have he := k3 q hq ht
          subst he
          have hok : st.ok = true := by
            obtain ⟨_, m2, m3⟩ := q1
            obtain ⟨x, hx1, hx2⟩ := List.any_eq_true.1 m2
            exact (m3 x hx1 hx2).2.ok
          refine ⟨st.heap, ?_⟩
          rw [hcall]
          show some (Res.pan q.2, st.heap, st.ok) = _
          rw [hok]
      · exact Spec.non
    · exact Spec.non

/-! ### a function that defers a closure first -/
def ptrAll (st : St) : List ResultVar → List (Value × Bool)
  | [] => []
  | .tmp i :: r => st.tmps.getD i (undef, false) :: ptrAll st r
  | .cell a _ :: r => st.tmps.getD a (undef, false) :: ptrAll st r
structure PtrR (F : Tab) (ρ : Nat → Int) (U : Nat → Vl → Vl) (rs : List ResultVar) (l : List SV) (h : HeapS) (st : St) : Prop where
  ok : st.ok = true
  ptr : ptrAll st rs = (cvl F ρ U l).map fun v => (v, true)
  hp : st.heap = hpc F ρ U h
theorem ptrR_ok {rs : List ResultVar} : RelOk F ρ U .full (PtrR F ρ U rs) := ⟨fun l l' h h' st e1 e2 r => ⟨r.ok, by rw [← e1]; exact r.ptr, by
  rcases e2 with e2 | e2
  · cases e2
  · exact r.hp.trans e2⟩⟩
theorem ptrS_spec (hB : Base F ρ U) : ∀ (rs : List ResultVar) (pc : PC) (s : SSt), Spec F (ptrS rs pc s) (fun l => ∀ st, StR F ρ U s st → pcH F ρ U pc → ptrAll st rs = (cvl F ρ U l).map fun v => (v, true))
  | [], _, _ => Spec.ret fun _ _ _ => rfl
  | r :: rs, pc, s => by
    unfold ptrS
    have one : Spec F (ptrOne pc s r) (fun v => ∀ st, StR F ρ U s st → pcH F ρ U pc → ptrAll st [r] = [(cv F ρ U v, true)]) := by
      cases r with
      | tmp i => exact (rdS_spec hB).mono fun v h st hs hp => congrArg (fun x => [x]) (h s.heap st hs hp)
      | cell a ty => exact (rdS_spec hB).mono fun v h st hs hp => congrArg (fun x => [x]) (h s.heap st hs hp)
    refine Spec.bnd one fun v => Spec.bnd (ptrS_spec hB rs pc s) fun l => Spec.ret fun h1 h2 st hs hp => ?_
    have h2 := h2 st hs hp
    have h1 := h1 st hs hp
    cases r with
    | tmp i =>
      simp only [ptrAll, List.cons.injEq, and_true] at h2 ⊢
      rw [h1, h2]; rfl
    | cell a ty =>
      simp only [ptrAll, List.cons.injEq, and_true] at h2 ⊢
      rw [h1, h2]; rfl
theorem fetchS_spec {P : Program} {h : HeapS} {st : St} : ∀ {rs : List ResultVar} {l m : List SV}, fetchS P h rs l = some m → ptrAll st rs = ((cvl F ρ U l).map fun v => (v, true)) → resAll P ⟨st.tmps, hpc F ρ U h, true⟩ rs = some (cvl F ρ U m, true)
  | [], [], m, e, _ => by cases e; rfl
  | .tmp i :: rs, v :: l, m, e, hp => by
    unfold fetchS at e
    rw [cvl_cons, List.map_cons] at hp
    simp only [ptrAll, List.cons.injEq] at hp
    split at e
    · rename_i m' hm
      cases e
      unfold resAll
      simp only [resD, hp.1, fetchS_spec hm hp.2]
      rfl
    · cases e
  | .cell a ty :: rs, v :: l, m, e, hp => by
    unfold fetchS at e
    rw [cvl_cons, List.map_cons] at hp
    simp only [ptrAll, List.cons.injEq] at hp
    split at e
    · rename_i x hx
      split at e
      · rename_i m' hm
        cases e
        unfold resAll
        simp only [resD, hp.1, loadS_spec hx, fetchS_spec hm hp.2]
        rfl
      · cases e
    · cases e
  | [], _ :: _, _, e, _ => by cases e
  | .tmp _ :: _, [], _, e, _ => by cases e
  | .cell _ _ :: _, [], _, e, _ => by cases e
theorem finE_spec (e : Ex) (st : St) (hne : ∀ id, e ≠ .exit id) : finE e st = some (undef, st.heap, st.ok) := by
  cases e with
  | exit id => exact absurd rfl (hne id)
  | normal => rfl
  | ret => rfl
theorem deferF_spec (hB : Base F ρ U) {Q : EnvQ} {X : EnvX} (hQ : EnvQR F ρ U Q X) {n : Nat} {id : FuncId} {caps : List SV} {pc : PC} {h : HeapS} {rc : Option TypeId} :
    Spec F (deferF Q n id caps pc h rc) (fun h' => pcH F ρ U pc → ∃ v, deferG X n id (cvl F ρ U caps) (hpc F ρ U h) rc = some (v, hpc F ρ U h', true)) := by
  have hP : X.P = Q.E.P := hQ.base.P
  unfold deferF
  split
  · rename_i fn h1
    split
    · rename_i c h2
      refine Spec.gd fun hc => ?_
      unfold deferS
      split
      · rename_i rid ops rest
        split
        · rename_i o r hops
          refine Spec.gd fun hg => ?_
          simp only [Bool.and_eq_true] at hg
          obtain ⟨hg1, hn⟩ := hg
          rw [startC_eq]
          have hRR : RelOk F ρ U .full (fun _ h st => st.ok = true ∧ st.heap = hpc F ρ U h) := ⟨fun l l' h h' st _ e2 r => ⟨r.1, by
            rcases e2 with e2 | e2
            · cases e2
            · exact r.2.trans e2⟩⟩
          have hres : ∀ (pc : PC) (s : SSt), Spec F (ret ([] : List SV)) (fun _ => ∀ st, StR F ρ U s st → pcH F ρ U pc → st.ok = true ∧ st.heap = hpc F ρ U (keepH .full s.heap)) := fun pc s => Spec.ret fun st hs _ => ⟨hs.ok, hs.hp⟩
          refine Spec.bnd (runS_spec hB hQ.base r 1 _) fun s1 => Spec.bnd (execS_spec hB hQ.base (keep := .full) hRR (res := fun _ _ => ret []) hres n rest pc s1) fun oo => Spec.bnd (finO_spec hB hRR (res := fun _ _ => ret []) hres) fun rr => Spec.ret fun h3 h4 h5 hp => ?_
          have hst := start_spec (F := F) (ρ := ρ) (U := U) (fn := fn) (args := caps) (h := h) hB (Nat.le_of_ble_eq_true hn)
          have hst2 : StR F ρ U ⟨slots (startSS fn caps h).tmps o.dst (some (.lit (recV rc), 1)), h⟩ ⟨putT (startS fn (cvl F ρ U caps) (hpc F ρ U h)).tmps o.dst (recV rc, true), hpc F ρ U h, true⟩ := by
            refine ⟨rfl, lenR hst.len _ _ _, slots_spec hst.len hst.tm ?_, rfl⟩
            intro w d hw
            cases hw
            rw [hB.t1, cv_lit]; rfl
          obtain ⟨st1, e1, g1⟩ := h5 _ hst2 hp
          obtain ⟨e, st2, q1, q2⟩ := h4 st1 g1 hp
          obtain ⟨k1, l, _, k3⟩ := h3 e st2 hp q1
          refine ⟨undef, ?_⟩
          unfold deferG
          rw [hP]
          simp only [h1, h2, hc, cond_true]
          unfold deferC
          simp only [hops, hg1.1.1, hg1.1.2, hg1.2, Bool.and_self, cond_true, len_hpc, e1]
          rw [q2, finE_spec e st2 k1, k3.1, k3.2]
        · exact Spec.non
      · exact Spec.non
    · exact Spec.non
  · exact Spec.non
theorem endS_spec (hB : Base F ρ U) {Q : EnvQ} {X : EnvX} (hQ : EnvQR F ρ U Q X) {n : Nat} {fn : Func} {id : FuncId} {caps : List SV} {pc : PC} {h : HeapS} {l : List SV} {rc : Option TypeId} :
    Spec F (endS Q n fn.results.toList id caps pc h l rc) (fun m => ∀ st, pcH F ρ U pc → PtrR F ρ U fn.results.toList l h st → leaveH X n fn id (cvl F ρ U caps) st rc = some (oneOr (cvl F ρ U m), true)) := by
  have hP : X.P = Q.E.P := hQ.base.P
  unfold endS
  refine Spec.bnd (deferF_spec hB hQ) fun h' => Spec.opt.mono fun m hm h1 st hp hr => ?_
  obtain ⟨v, e1⟩ := h1 hp
  have e2 := fetchS_spec (F := F) (ρ := ρ) (U := U) (st := st) hm hr.ptr
  unfold leaveH
  rw [hr.hp, e1]
  dsimp only
  rw [hP, e2]
  dsimp only
  rw [hr.ok]
  rfl
theorem leaveX_spec (hB : Base F ρ U) {Q : EnvQ} {X : EnvX} (hQ : EnvQR F ρ U Q X) {n : Nat} {fn : Func} {id : FuncId} {caps : List SV} {pc : PC} {last : Option (List SV)} : ∀ (xs : Exits),
    Spec F (leaveX Q n fn.results.toList id caps pc last xs) (fun m => (∀ x ∈ xs, PB ≤ x.1) ∧ (pcH F ρ U pc →
      (∀ t st, SatX F ρ U xs (PB + t) st → anyX F ρ U xs = true → leaveH X n fn id (cvl F ρ U caps) st (some t) = some (oneOr (cvl F ρ U m), true)) ∧
      (anyX F ρ U xs = false → ∀ m0, last = some m0 → cvl F ρ U m = cvl F ρ U m0)))
  | [] => by
    unfold leaveX
    refine Spec.opt.mono fun m hm => ⟨fun _ hx => (by cases hx), fun _ => ⟨fun t st _ ha => (by cases ha), fun _ m0 hm0 => ?_⟩⟩
    rw [hm] at hm0
    cases hm0
    rfl
  | (i, g, s) :: r => by
    have tl : ∀ {j st}, SatX F ρ U ((i, g, s) :: r) j st → SatX F ρ U r j st := fun h y hy => h y (List.mem_cons_of_mem _ hy)
    unfold leaveX
    refine Spec.gd fun hi => ?_
    have hi := Nat.le_of_ble_eq_true hi
    refine Spec.bnd (ptrS_spec hB fn.results.toList _ s) fun l => Spec.bnd (endS_spec hB hQ) fun m => ?_
    have one : ∀ t st, (∀ st, StR F ρ U s st → pcH F ρ U ((g, true) :: pc) → ptrAll st fn.results.toList = (cvl F ρ U l).map fun v => (v, true)) →
        (∀ st, pcH F ρ U ((g, true) :: pc) → PtrR F ρ U fn.results.toList l s.heap st → leaveH X n fn id (cvl F ρ U caps) st (some (i - PB)) = some (oneOr (cvl F ρ U m), true)) →
        pcH F ρ U pc → tv F ρ U g = true → SatX F ρ U ((i, g, s) :: r) (PB + t) st → leaveH X n fn id (cvl F ρ U caps) st (some t) = some (oneOr (cvl F ρ U m), true) := fun t st h1 h2 hp hg hs => by
      obtain ⟨k1, k2⟩ := hs (i, g, s) List.mem_cons_self hg
      have k1 : i = PB + t := k1
      have := h2 st (hp.cons hg) ⟨k2.ok, h1 st k2 (hp.cons hg), k2.hp⟩
      rwa [k1, Nat.add_sub_cancel_left] at this
    have rest : Spec F (bnd (leaveX Q n fn.results.toList id caps pc last r) fun m' => mergeL (mergeV 5 g) m m') (fun q => (∀ st, pcH F ρ U ((g, true) :: pc) → PtrR F ρ U fn.results.toList l s.heap st → leaveH X n fn id (cvl F ρ U caps) st (some (i - PB)) = some (oneOr (cvl F ρ U m), true)) →
        (∀ st, StR F ρ U s st → pcH F ρ U ((g, true) :: pc) → ptrAll st fn.results.toList = (cvl F ρ U l).map fun v => (v, true)) → (∀ x ∈ (i, g, s) :: r, PB ≤ x.1) ∧ (pcH F ρ U pc →
        (∀ t st, SatX F ρ U ((i, g, s) :: r) (PB + t) st → anyX F ρ U ((i, g, s) :: r) = true → leaveH X n fn id (cvl F ρ U caps) st (some t) = some (oneOr (cvl F ρ U q), true)) ∧
        (anyX F ρ U ((i, g, s) :: r) = false → ∀ m0, last = some m0 → cvl F ρ U q = cvl F ρ U m0))) := by
      refine Spec.bnd (leaveX_spec hB hQ r) fun m' => (mergeL_spec (mergeV_spec hB 5 g) m m').mono fun q hq ⟨h1, h2⟩ h3 h4 => ⟨fun x hx => ?_, fun hp => ?_⟩
      · rcases List.mem_cons.1 hx with rfl | hx
        · exact hi
        · exact h1 x hx
      · obtain ⟨h5, h6⟩ := h2 hp
        have an : anyX F ρ U ((i, g, s) :: r) = (tv F ρ U g || anyX F ρ U r) := rfl
        unfold by_ at hq
        cases hg : tv F ρ U g with
        | true =>
          rw [hg, cond_true] at hq
          rw [hq]
          exact ⟨fun t st hs _ => one t st h4 h3 hp hg hs, fun ha => by rw [an, hg] at ha; cases ha⟩
        | false =>
          rw [hg, cond_false] at hq
          rw [hq, an, hg, Bool.false_or]
          exact ⟨fun t st hs ha => h5 t st (tl hs) ha, fun ha => h6 ha⟩
    split
    · refine Spec.bnd (needS_spec hB) fun _ => Spec.ret fun h1 h2 h3 => ⟨fun x hx => ?_, fun hp => ⟨fun t st hs _ => one t st h3 h2 hp (h1 hp) hs, fun _ m0 hm0 => (by cases hm0)⟩⟩
      rcases List.mem_cons.1 hx with rfl | hx
      · exact hi
      · cases hx
    · exact rest
theorem leaveS_spec (hB : Base F ρ U) {Q : EnvQ} {X : EnvX} (hQ : EnvQR F ρ U Q X) {n : Nat} {fn : Func} {id : FuncId} {caps : List SV} {pc : PC} {o : OutS} :
    Spec F (leaveS Q n fn.results.toList id caps pc o) (fun v => ∀ e st, pcH F ρ U pc → OutR F ρ U (PtrR F ρ U fn.results.toList) o (exMap e) st → wfE e → leaveG X n fn id (cvl F ρ U caps) e st = some (cv F ρ U v, true)) := by
  have hres : ∀ pc s, Spec F (ptrS fn.results.toList pc s) (fun l => ∀ st, StR F ρ U s st → pcH F ρ U pc → PtrR F ρ U fn.results.toList l (keepH .full s.heap) st) := fun pc s =>
    (ptrS_spec hB fn.results.toList pc s).mono fun l hl st hs hp => ⟨hs.ok, hl st hs hp, hs.hp⟩
  unfold leaveS
  refine Spec.bnd (normQ_spec hB ptrR_ok hres) fun q => Spec.bnd (outX_spec hB _ _) fun g => ?_
  -- by the way out
  have fin : ∀ (m : List SV) (last : Option (List SV)), ((∀ x ∈ o.exits, PB ≤ x.1) ∧ (pcH F ρ U pc →
      (∀ t st, SatX F ρ U o.exits (PB + t) st → anyX F ρ U o.exits = true → leaveH X n fn id (cvl F ρ U caps) st (some t) = some (oneOr (cvl F ρ U m), true)) ∧
      (anyX F ρ U o.exits = false → ∀ m0, last = some m0 → cvl F ρ U m = cvl F ρ U m0))) →
      ∀ e st, pcH F ρ U pc → OutR F ρ U (PtrR F ρ U fn.results.toList) o (exMap e) st → wfE e → ((∀ id, exMap e ≠ .exit id) → anyX F ρ U o.exits = false → ∃ m0, last = some m0 ∧ leaveH X n fn id (cvl F ρ U caps) st none = some (oneOr (cvl F ρ U m0), true)) →
      leaveG X n fn id (cvl F ρ U caps) e st = some (cv F ρ U (oneOrS m), true) := fun m last ⟨k1, k2⟩ e st hp h hw hn => by
    obtain ⟨k3, k4⟩ := k2 hp
    rw [← oneOr_spec]
    cases e with
    | exit j =>
      obtain ⟨_, a2, a3⟩ := h
      obtain ⟨x, hx, hxt⟩ := List.any_eq_true.1 a2
      have h1 := (a3 x hx hxt).1
      have h2 := k1 x hx
      have h3 : j < PB := hw
      omega
    | pan t => exact k3 t st h.2.2 h.2.1
    | normal =>
      have ha : anyX F ρ U o.exits = false := h.2.2
      obtain ⟨m0, e1, e2⟩ := hn (fun id e => by cases e) ha
      rw [k4 ha m0 e1]
      exact e2
    | ret =>
      have ha : anyX F ρ U o.exits = false := h.1
      obtain ⟨m0, e1, e2⟩ := hn (fun id e => by cases e) ha
      rw [k4 ha m0 e1]
      exact e2
  split
  · rename_i q
    refine Spec.bnd (endS_spec hB hQ) fun m0 => Spec.bnd (leaveX_spec hB hQ o.exits) fun m => Spec.ret fun h1 h2 h3 h4 e st hp h hw => ?_
    refine fin m (some m0) h1 e st hp h hw fun hne ha => ⟨m0, rfl, ?_⟩
    obtain ⟨m1, e1, e2⟩ := h4 (exMap e) st hp h hne
    cases e1
    refine h2 st (hp.cons ?_) e2
    rw [h3, ha, hB.t0]; rfl
  · refine Spec.bnd (leaveX_spec hB hQ o.exits) fun m => Spec.ret fun h1 h3 h4 e st hp h hw => ?_
    refine fin m none h1 e st hp h hw fun hne ha => ?_
    obtain ⟨m1, e1, _⟩ := h4 (exMap e) st hp h hne
    cases e1
theorem guardSy_ok (hB : Base F ρ U) {Q : EnvQ} {X : EnvX} (hQ : EnvQR F ρ U Q X) {n : Nat} {f : FuncId} : SymOk F ρ U (guardO X n f) (guardSy Q n f) := fun pc args => by
  have hP : X.P = Q.E.P := hQ.base.P
  unfold guardSy
  split
  · rename_i fn h1
    split
    · rename_i c h2
      refine Spec.gd fun hpl => ?_
      have key : Spec F (guardCS Q n fn pc args c) (fun v => pcH F ρ U pc → guardC X n fn c (cvl F ρ U args) = some (cv F ρ U v, true)) := by
        unfold guardCS
        split
        · rename_i i0 o0 i1 o1 rest
          refine Spec.gd fun hn => ?_
          rw [startC_eq]
          refine Spec.bnd (regionS_spec hB hQ.base) fun s1 => ?_
          unfold guardC1
          split
          · rename_i o hlast
            split
            · rename_i fo hdf
              refine Spec.gd fun hc => Spec.bnd (runS_spec hB hQ.base _ 0 s1) fun s2 => Spec.bnd (rdS_spec hB) fun v => ?_
              rw [Bool.and_eq_true] at hc
              have hnew : hasNew o1.toList = false := by simpa using hc.1
              unfold guardK
              split
              · rename_i id caps
                refine Spec.bnd (execQ_spec (α := Value × Bool) hB hQ (keep := .full) ptrR_ok (fun pc s => (ptrS_spec hB fn.results.toList pc s).mono fun l hl st hs hp => ⟨hs.ok, hl st hs hp, hs.hp⟩) n rest pc s2) fun oo => (leaveS_spec hB hQ).mono fun r h3 h4 h5 h6 h7 hp => ?_
                obtain ⟨st1, e1, g1⟩ := h7 _ (start_spec (h := []) hB (Nat.le_of_ble_eq_true hn)) hp
                obtain ⟨st2, e2, g2⟩ := h6 st1 g1 hp
                have e3 := h5 s2.heap st2 g2 hp
                rw [cv_func] at e3
                obtain ⟨e, st3, q1, q2, q3⟩ := h4 st2 g2 hp
                have e4 := h3 e st3 hp q1 q2
                have hl : st1.heap.length = s1.heap.length := by rw [g1.hp, len_hpc]
                unfold guardC
                simp only
                rw [show ([] : Heap) = hpc F ρ U [] from rfl, e1]
                simp only
                unfold guardD1
                simp only [hlast, hdf, hnew, hc.2, Bool.not_true, Bool.or_self, cond_false, hl, e2]
                unfold guardR
                rw [e3]
                simp only [cvl, List.map_nil, List.isEmpty_nil, Bool.and_self, cond_true]
                rw [q3]
                exact e4
              · exact Spec.non
            · exact Spec.non
          · exact Spec.non
        · exact Spec.non
      refine Spec.bnd key fun v => Spec.gd fun hv => Spec.ret fun h3 hp => ?_
      have hA : (cvl F ρ U args).all plainB = true := (all_cvl plainS_spec _).trans hpl
      have hV : plainB (cv F ρ U v) = true := (plainS_spec _).trans hv
      unfold guardO
      rw [hA, cond_true]
      unfold guardG
      rw [hP]
      simp only [h1, h2, h3 hp, hV, cond_true]
    · exact Spec.non
  · exact Spec.non
end
end Sx
end
