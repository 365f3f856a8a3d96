/-
  Names in runs; works in runs. No condition.
-/
import Derived.Test.YtigegnkifeljhaaWn
import Derived.Test.YtigegnkifeljhaaSz
import Derived.Test.YtigegnkifeljhaaWo
set_option linter.unusedSectionVars false
noncomputable section
namespace Go.Proofs.Ytigegnkifeljhaa
open Go Go.ChangeShapes Go.WideShapes Go.ChangeAt Go.RowKit Ev Sx

theorem wf_wr {v : Value} (h : wfC v = true) : wrC v = true := by
  cases v with
  | int k z =>
    have h : (decide (k.min ≤ z) && decide (z ≤ k.max)) = true := h
    rw [Bool.and_eq_true] at h
    have h1 := of_decide_eq_true h.1
    have h2 := of_decide_eq_true h.2
    show decide (k.wrap z = z) = true
    refine decide_eq_true ?_
    cases k <;> simp [IntKind.wrap, IntKind.bits, IntKind.signed, IntKind.min, IntKind.max] at * <;> omega
  | _ => rfl
theorem wfs_wr {vs : List Value} (h : vs.all wfC = true) : vs.all wrC = true := by
  rw [List.all_eq_true] at h ⊢
  exact fun v hv => wf_wr (h v hv)
theorem maxLen_eq : maxLen = 9223372036854775807 := by kernel_rfl
theorem size_lt {s : ByteArray} {c : Int} (h : true = (bif true then decide (factV (.string s) < c) else !decide (factV (.string s) < c))) : (s.size : Int) < c := by
  rw [cond_true] at h
  exact of_decide_eq_true h.symm
theorem size_le {s : ByteArray} (h : true = (bif true then decide (factV (.string s) < 9223372036854775808) else !decide (factV (.string s) < 9223372036854775808))) : s.size ≤ maxLen := by
  have := size_lt h
  rw [maxLen_eq]
  omega
theorem fact1 {g : Nat → Vl} {x : SV} {c : Int} {r : List Fact} (h : factV (conc g x) < c) (hr : factsH g r) : factsH g ((x, c, true) :: r) := ⟨decide_eq_true h, hr⟩
theorem fact1n {g : Nat → Vl} {x : SV} {c : Int} {r : List Fact} (h : ¬ factV (conc g x) < c) (hr : factsH g r) : factsH g ((x, c, false) :: r) := ⟨by rw [cond_false, decide_eq_false h]; rfl, hr⟩
theorem fitV_bare {y : Ty} {v : Value} (h : fitV y v = true) : bareC v = true := by
  unfold fitV at h
  split at h <;> first | rfl | cases h
/-! ### names in runs -/
def UNm (op : Nat) (z : Vl) : Vl := if op = 130 then .i (bif nameV (strOf z.z) then 1 else 0) else .i 0
def nameSy : SymF := fun pc args =>
  match args with
  | [.s i] => bnd (factN (.s i)) fun n => bnd (asI (.lit (.int .i64 9223372036854775808))) fun c => bnd (ltI n c true) fun v => bnd (opt (asB v)) fun g => bnd (needS pc g) fun _ => bnd (mk3 130 i 0 0) fun a => bnd (atomS a) fun r => ret (.b r)
  | _ => non
theorem nameSy_ok {F : Tab} {ρ : Nat → Int} (hB : Base F ρ UNm) : SymOk F ρ UNm nameO nameSy := fun pc args => by
  unfold nameSy
  split
  · rename_i i
    refine Spec.bnd (factN_ok (ρ := ρ) (U := UNm)) fun n => Spec.bnd (asI_spec (ρ := ρ) (U := UNm) (k := .i64) rfl) fun c => Spec.bnd (ltI_spec hB) fun v => Spec.bnd (optB hB) fun g => Spec.bnd (needS_spec hB) fun _ => Spec.bnd (mk3_spec (ρ := ρ) (U := UNm)) fun a => Spec.bnd (atomS_spec hB) fun r => Spec.ret fun h1 h2 h3 h4 h5 h6 h7 hp => ?_
    have e := h3 hp
    rw [h4] at h5
    injection h5 with h5
    rw [e, h7, cv_s] at h5
    rw [cv_lit] at h6
    injection h6 with _ h6
    rw [← h6] at h5
    have hk : (strOf (raw F ρ UNm i).z).size ≤ maxLen := size_le h5
    obtain ⟨p, h2⟩ := h2
    have h2 : raw F ρ UNm a = .i (bif nameV (strOf (raw F ρ UNm i).z) then 1 else 0) := h2
    rw [cvl_cons, cv_s, cv_b]
    show some (Value.bool (nameV (strOf (raw F ρ UNm i).z)), decide ((strOf (raw F ρ UNm i).z).size ≤ maxLen)) = _
    rw [decide_eq_true hk]
    have : tv F ρ UNm r = nameV (strOf (raw F ρ UNm i).z) := by
      rw [h1]
      show (raw F ρ UNm a).tr = _
      rw [h2, Vl.tr_bif]
    rw [this]
  · exact Spec.non
def orcWn : List (Nat × Sig) := [(61, nameO), (113, nameO)]
theorem orcWnOk {ι : Frn} : ∀ p ∈ orcWn, @OrcOne ι Try.prog p.1 p.2 := all_cons is_one (all_cons nm_one all_nil)
def symWn : List (Nat × SymF) := [(61, nameSy), (113, nameSy)]
theorem symWnR (F : Tab) (ρ : Nat → Int) (hB : Base F ρ UNm) : ListR F ρ UNm symWn (fun f => seek f orcWn) := ListR.cons (nameSy_ok hB) <| ListR.cons (nameSy_ok hB) ListR.nil
abbrev tk1 (v : Value) (l : Nat) (cs : List Value) : Toks := [(v, l, cs)]
theorem tk1_in {w : World} {v : Value} {l : Nat} {cs : List Value} {con : FuncId → Option (List Value → Heap → Option (Value × List (List Value) × Bool))} (h : RowIn w v l cs) : @FrnIn (frnOf w.heap.size (tk1 v l cs) con) w := frn_in fun k v' l' cs' hk => by
  match k, hk with
  | 0, hk => cases hk; exact h
def noF : FuncId → Option (List Value → Heap → Option (Value × List (List Value) × Bool)) := fun _ => none
theorem noF_ok {base : Nat} {ts : Toks} {P : Program} : @ConOk (frnOf base ts noF) P := fun f g h => by
  have h : (none : Option (List Value → Heap → Option (Value × List (List Value) × Bool))) = some g := h
  cases h
theorem noX {ι : Frn} {P : Program} : @ExtOk ι P (fun f => seek f []) := fun f g e => by cases e

/-! ### works of n batches, as variables -/
def wkRow (n : Nat) : List SV := svsK (repK batK n) 0 0
def wkSh (n : Nat) : List SV := [.n .i64 (9 * n + 2), .lit (tokC 0 n 0)]
abbrev wkF (n : Nat) : SFrn := ⟨fun k => bif Nat.beq k 0 then wkRow n else [], fun _ => none⟩
def wkFs (n : Nat) : List Fact := (List.range n).map fun q => (.s (9 * q + 2), 9223372036854775808, true)
def wkJ (f n : Nat) : Job := ⟨f, [.agg (wkSh n)], []⟩
def wkRun (us : List Nat) (f g : Nat) (ps : List Par) (n : Nat) : Bool := ((wkRow n).all (inC (9 * n + 1 + 0)) && (wkSh n).all (inC (9 * n + 1 + 0))) && @pair2B (wkF n) Try.prog [] symWn us 300 30 (9 * n + 1) [] (wkFs n) (wkJ f n) (wkJ g n) ps
end Go.Proofs.Ytigegnkifeljhaa
end
