/-
  Where a piece of code leads: rules for the evaluator's code ('Goes'). No condition; nothing of one program stands here.
-/
import Derived.Test.YtljmhdaphpdkgaaEv
set_option linter.unusedSectionVars false
namespace Ev
noncomputable section
open Go
variable [Frn]

/-! ### Where a piece of code leads -/
/-- from 's' the code comes out by 'e' in 's'', whatever lies behind it, if there is steps enough -/
def Goes (E : Env) (N : Nat) (c : Code) (s : St) (e : Ex) (s' : St) : Prop := ∀ n, N ≤ n → ∀ k, codeK E n c s k = k e s'
theorem Goes.more {E : Env} {N M : Nat} {c : Code} {s s' : St} {e : Ex} (h : Goes E N c s e s') (hm : N ≤ M) : Goes E M c s e s' := fun n hn => h n (Nat.le_trans hm hn)
theorem Goes.region {E : Env} {N id : Nat} {ops : Array Oper} {draw : Bool} {s s' : St} (h : regionD E draw ops.toList s = some s') : Goes E (N + 1) (.region id ops draw) s .normal s' := fun n hn k => by
  obtain ⟨m, rfl⟩ : ∃ m, n = m + 1 := ⟨n - 1, by omega⟩
  simp only [codeK, h]
theorem Goes.seq {E : Env} {N : Nat} {a b : Code} {s s1 s' : St} {e : Ex} (h : Goes E N a s .normal s1) (k : Goes E N b s1 e s') : Goes E (N + 1) (.seq a b) s e s' := fun n hn k' => by
  obtain ⟨m, rfl⟩ : ∃ m, n = m + 1 := ⟨n - 1, by omega⟩
  simp only [codeK]
  rw [h m (by omega)]
  exact k m (by omega) k'
theorem Goes.seqX {E : Env} {N : Nat} {a b : Code} {s s' : St} {id : Nat} (h : Goes E N a s (.exit id) s') : Goes E (N + 1) (.seq a b) s (.exit id) s' := fun n hn k' => by
  obtain ⟨m, rfl⟩ : ∃ m, n = m + 1 := ⟨n - 1, by omega⟩
  simp only [codeK]
  rw [h m (by omega)]
theorem Goes.seqR {E : Env} {N : Nat} {a b : Code} {s s' : St} (h : Goes E N a s .ret s') : Goes E (N + 1) (.seq a b) s .ret s' := fun n hn k' => by
  obtain ⟨m, rfl⟩ : ∃ m, n = m + 1 := ⟨n - 1, by omega⟩
  simp only [codeK]
  rw [h m (by omega)]
theorem Goes.condT {E : Env} {N : Nat} {x : Operand} {a b : Code} {s s' : St} {e : Ex} {g : Bool} (hx : evl s.tmps x = (.bool true, g)) (h : Goes E N a { s with ok := g && s.ok } e s') : Goes E (N + 1) (.cond x a b) s e s' := fun n hn k' => by
  obtain ⟨m, rfl⟩ : ∃ m, n = m + 1 := ⟨n - 1, by omega⟩
  simp only [codeK, hx, cond_true]
  exact h m (by omega) k'
theorem Goes.condF {E : Env} {N : Nat} {x : Operand} {a b : Code} {s s' : St} {e : Ex} {g : Bool} (hx : evl s.tmps x = (.bool false, g)) (h : Goes E N b { s with ok := g && s.ok } e s') : Goes E (N + 1) (.cond x a b) s e s' := fun n hn k' => by
  obtain ⟨m, rfl⟩ : ∃ m, n = m + 1 := ⟨n - 1, by omega⟩
  simp only [codeK, hx, cond_false]
  exact h m (by omega) k'
theorem Goes.block {E : Env} {N id : Nat} {a : Code} {s s' : St} (h : Goes E N a s .normal s') : Goes E (N + 1) (.block id a) s .normal s' := fun n hn k' => by
  obtain ⟨m, rfl⟩ : ∃ m, n = m + 1 := ⟨n - 1, by omega⟩
  simp only [codeK]
  rw [h m (by omega)]
theorem Goes.blockX {E : Env} {N id : Nat} {a : Code} {s s' : St} (h : Goes E N a s (.exit id) s') : Goes E (N + 1) (.block id a) s .normal s' := fun n hn k' => by
  obtain ⟨m, rfl⟩ : ∃ m, n = m + 1 := ⟨n - 1, by omega⟩
  simp only [codeK]
  rw [h m (by omega)]
  simp only [Nat.beq_refl, cond_true]
theorem Goes.blockR {E : Env} {N id : Nat} {a : Code} {s s' : St} (h : Goes E N a s .ret s') : Goes E (N + 1) (.block id a) s .ret s' := fun n hn k' => by
  obtain ⟨m, rfl⟩ : ∃ m, n = m + 1 := ⟨n - 1, by omega⟩
  simp only [codeK]
  rw [h m (by omega)]
theorem Goes.loop {E : Env} {N : Nat} {a : Code} {s s1 s' : St} {e : Ex} (h : Goes E N a s .normal s1) (k : Goes E N (.loop a) s1 e s') : Goes E (N + 1) (.loop a) s e s' := fun n hn k' => by
  obtain ⟨m, rfl⟩ : ∃ m, n = m + 1 := ⟨n - 1, by omega⟩
  rw [codeK]
  rw [h m (by omega)]
  exact k m (by omega) k'
theorem Goes.loopX {E : Env} {N : Nat} {a : Code} {s s' : St} {id : Nat} (h : Goes E N a s (.exit id) s') : Goes E (N + 1) (.loop a) s (.exit id) s' := fun n hn k' => by
  obtain ⟨m, rfl⟩ : ∃ m, n = m + 1 := ⟨n - 1, by omega⟩
  rw [codeK]
  rw [h m (by omega)]
theorem Goes.loopR {E : Env} {N : Nat} {a : Code} {s s' : St} (h : Goes E N a s .ret s') : Goes E (N + 1) (.loop a) s .ret s' := fun n hn k' => by
  obtain ⟨m, rfl⟩ : ∃ m, n = m + 1 := ⟨n - 1, by omega⟩
  rw [codeK]
  rw [h m (by omega)]
theorem Goes.skip {E : Env} {N : Nat} {s : St} : Goes E (N + 1) .skip s .normal s := fun n hn k' => by
  obtain ⟨m, rfl⟩ : ∃ m, n = m + 1 := ⟨n - 1, by omega⟩
  rfl
theorem Goes.exit {E : Env} {N id : Nat} {s : St} : Goes E (N + 1) (.exit id) s (.exit id) s := fun n hn k' => by
  obtain ⟨m, rfl⟩ : ∃ m, n = m + 1 := ⟨n - 1, by omega⟩
  rfl
theorem Goes.ret {E : Env} {N : Nat} {s : St} : Goes E (N + 1) .ret s .ret s := fun n hn k' => by
  obtain ⟨m, rfl⟩ : ∃ m, n = m + 1 := ⟨n - 1, by omega⟩
  rfl
/-- a loop whose state is told by numbers: 'S i' at the head of round 'i', until round 'm' -/
theorem Goes.rounds {E : Env} {N : Nat} {a : Code} {S : Nat → St} {s' : St} {id : Nat} : ∀ (m i : Nat), (∀ j, i ≤ j → j < i + m → Goes E N a (S j) .normal (S (j + 1))) → Goes E N a (S (i + m)) (.exit id) s' → Goes E (N + m + 1) (.loop a) (S i) (.exit id) s'
  | 0, i, _, h => .loopX h
  | m + 1, i, hs, h => by
    refine .loop ((hs i (Nat.le_refl _) (by omega)).more (by omega)) ?_
    have := Goes.rounds m (i + 1) (fun j h1 h2 => hs j (by omega) (by omega)) (by rw [show i + 1 + m = i + (m + 1) by omega]; exact h)
    exact this.more (by omega)
end
end Ev
namespace Ev
noncomputable section
open Go
variable [Frn]
/-! pieces of a code, by their places -/
def sa : Code → Code
  | .seq a _ => a
  | c => c
def sb : Code → Code
  | .seq _ b => b
  | c => c
def inn : Code → Code
  | .block _ a => a
  | .loop a => a
  | .scope a => a
  | c => c
def bid : Code → Nat
  | .block i _ => i
  | .exit i => i
  | _ => 0
def cx : Code → Operand
  | .cond x _ _ => x
  | _ => .const undef
def ca : Code → Code
  | .cond _ a _ => a
  | c => c
def cb : Code → Code
  | .cond _ _ b => b
  | c => c
def regionOf (E : Env) (c : Code) (s : St) : Option St :=
  match c with
  | .region _ ops draw => regionD E draw ops.toList s
  | _ => none
section
variable {E : Env} {N : Nat} {c : Code} {s s1 s' : St} {e : Ex}
theorem Goes.reg (h : regionOf E c s = some s') : Goes E (N + 1) c s .normal s' := by
  unfold regionOf at h
  split at h
  · exact .region h
  · cases h
theorem Goes.seq' (hc : c = .seq (sa c) (sb c)) (h : Goes E N (sa c) s .normal s1) (k : Goes E N (sb c) s1 e s') : Goes E (N + 1) c s e s' := by rw [hc]; exact .seq h k
theorem Goes.seqX' {id : Nat} (hc : c = .seq (sa c) (sb c)) (h : Goes E N (sa c) s (.exit id) s') : Goes E (N + 1) c s (.exit id) s' := by rw [hc]; exact .seqX h
theorem Goes.seqR' (hc : c = .seq (sa c) (sb c)) (h : Goes E N (sa c) s .ret s') : Goes E (N + 1) c s .ret s' := by rw [hc]; exact .seqR h
theorem Goes.block' (hc : c = .block (bid c) (inn c)) (h : Goes E N (inn c) s .normal s') : Goes E (N + 1) c s .normal s' := by rw [hc]; exact .block h
theorem Goes.blockX' (hc : c = .block (bid c) (inn c)) (h : Goes E N (inn c) s (.exit (bid c)) s') : Goes E (N + 1) c s .normal s' := by rw [hc]; exact .blockX h
theorem Goes.condT' {g : Bool} (hc : c = .cond (cx c) (ca c) (cb c)) (hx : evl s.tmps (cx c) = (.bool true, g)) (h : Goes E N (ca c) { s with ok := g && s.ok } e s') : Goes E (N + 1) c s e s' := by rw [hc]; exact .condT hx h
theorem Goes.condF' {g : Bool} (hc : c = .cond (cx c) (ca c) (cb c)) (hx : evl s.tmps (cx c) = (.bool false, g)) (h : Goes E N (cb c) { s with ok := g && s.ok } e s') : Goes E (N + 1) c s e s' := by rw [hc]; exact .condF hx h
theorem Goes.skip' (hc : c = .skip) : Goes E (N + 1) c s .normal s := by rw [hc]; exact .skip
theorem Goes.exit' (hc : c = .exit (bid c)) : Goes E (N + 1) c s (.exit (bid c)) s := by rw [hc]; exact .exit
theorem Goes.ret' (hc : c = .ret) : Goes E (N + 1) c s .ret s := by rw [hc]; exact .ret
theorem Goes.run (n0 : Nat) (h : ∀ m k, codeK E (m + n0) c s k = k e s') : Goes E n0 c s e s' := fun n hn k => by
  obtain ⟨m, rfl⟩ : ∃ m, n = m + n0 := ⟨n - n0, by omega⟩
  exact h m k
/-- a function's answer -/
theorem fun_of {P : Program} {ext orc : Orc} {us : List FuncId} {cf d : Nat} {f : FuncId} {fn : Func} {args : List Value} {r : Value × Heap × Bool} (ho : orc f = none) (hu : us.any (Nat.beq f) = true) (hf : P.funcs[f]? = some fn) (hb : fn.body = some c)
    (hg : Goes ⟨P, ext, funD P ext orc us cf d, false, false⟩ N c (startS fn args []) e s') (hN : N ≤ cf) (hk : finK P fn e s' = some r) : funD P ext orc us cf (d + 1) f args [] = some r := by
  simp only [funD, ho, hu, cond_true, hf, hb]
  rw [hg cf hN]
  exact hk
end
end
end Ev
