/-
  Works of 7 batches and more: neither the program nor the model calls them valid. No condition.
-/
import Derived.Test.YtigegnkifeljhaaWq
set_option linter.unusedSectionVars false
noncomputable section
namespace Go.Proofs.Ytigegnkifeljhaa
open Go Go.ChangeShapes Go.WideShapes Go.ChangeAt Go.RowKit Ev Sx

/-- at most, as it is reckoned where the first number is open -/
def leZ : Int → Int → Bool
  | .ofNat a, .ofNat b => Nat.ble a b
  | .negSucc _, .ofNat _ => true
  | _, _ => false
/-- a number between two others: what is told of rooms is handed in -/
def inC4 (c : Bool) : Sig
  | [.int .i64 n, .int .i64 a, .int .i64 b] => bif decide (b = 4) then some (.bool c, isB (inZ n a b = c)) else some (.bool (leZ n b), isB (inZ n a b = leZ n b))
  | _ => none
theorem inC4_one {ι : Frn} (c : Bool) : @OrcOne ι Try.prog 88 (inC4 c) := ⟨(in_one (ι := ι)).1, fun args v k he hk μ cargs w ha hw => by
  unfold inC4 at he
  split at he
  · rename_i n a b
    cases hb : decide (b = 4) with
    | true =>
      rw [hb, cond_true] at he
      simp only [Option.some.injEq, Prod.mk.injEq] at he
      obtain ⟨rfl, rfl⟩ := he
      have e := of_isB hk
      exact (in_one (ι := ι)).2 [.int .i64 n, .int .i64 a, .int .i64 b] _ true (by rw [← e]; rfl) rfl μ cargs w ha hw
    | false =>
      rw [hb, cond_false] at he
      simp only [Option.some.injEq, Prod.mk.injEq] at he
      obtain ⟨rfl, rfl⟩ := he
      have e := of_isB hk
      exact (in_one (ι := ι)).2 [.int .i64 n, .int .i64 a, .int .i64 b] _ true (by rw [← e]; rfl) rfl μ cargs w ha hw
  · cases he⟩
def orcC4 (c : Bool) : List (Nat × Sig) := [(88, inC4 c)]
theorem orcC4_ok {ι : Frn} (c : Bool) : ∀ p ∈ orcC4 c, @OrcOne ι Try.prog p.1 p.2 := all_cons (inC4_one c) all_nil
/-! ### the program's rooms -/
def rcO : Sig
  | [.int .i64 n] => some (.bool (inZ n 1 4), true)
  | _ => none
def rcF (A : Bool) : Bool := ((bif A then nmE1 A else true) && true) && (((nmE1 A && true) || !(A == true)) && true)
theorem rcF_true (A : Bool) : rcF A = true := by cases A <;> rfl
theorem rc_eval (n : Int) : (@funD noFrn Try.prog (fun f => seek f []) (fun f => seek f []) [60] 60 5 60 [.int .i64 n] []).map (fun r => (r.1, r.2.2)) =
    some (.bool (bif decide (n ≥ 1) then decide (n ≤ 4) else false), rcF (decide (n ≥ 1))) := by kernel_rfl
theorem rc_one {ι : Frn} : @OrcOne ι Try.prog 60 rcO := by
  refine orc_any (?_ : @OrcOne noFrn Try.prog 60 rcO) fun args v he => ?_
  · refine orc_one (us := [60]) (cf := 60) (d := 5) mixed (by kernel_rfl) (l0 := []) (lx := []) all_nil all_nil (by kernel_rfl) fun args v k he hk hx => ?_
    unfold rcO at he
    split at he
    · rename_i n
      simp only [Option.some.injEq, Prod.mk.injEq] at he
      obtain ⟨rfl, rfl⟩ := he
      refine ⟨rfl, rfl, ?_⟩
      have h := rc_eval n
      rw [rcF_true] at h
      exact of_map h
    · cases he
  · unfold rcO at he
    split at he
    · simp only [Option.some.injEq, Prod.mk.injEq] at he
      obtain ⟨rfl, _⟩ := he
      exact ⟨rfl, rfl⟩
    · cases he
def rcC4 (c : Bool) : Sig
  | [.int .i64 n] => some (.bool c, isB (inZ n 1 4 = c))
  | _ => none
theorem rcC4_one {ι : Frn} (c : Bool) : @OrcOne ι Try.prog 60 (rcC4 c) := ⟨(rc_one (ι := ι)).1, fun args v k he hk μ cargs w ha hw => by
  unfold rcC4 at he
  split at he
  · rename_i n
    simp only [Option.some.injEq, Prod.mk.injEq] at he
    obtain ⟨rfl, rfl⟩ := he
    have e := of_isB hk
    exact (rc_one (ι := ι)).2 [.int .i64 n] _ true (by rw [← e]; rfl) rfl μ cargs w ha hw
  · cases he⟩
def orcR4 (c : Bool) : List (Nat × Sig) := [(60, rcC4 c)]
theorem orcR4_ok {ι : Frn} (c : Bool) : ∀ p ∈ orcR4 c, @OrcOne ι Try.prog p.1 p.2 := all_cons (rcC4_one c) all_nil

/-! ### the model -/
theorem many_in (l : Nat) : inZ ((l + 7 : Nat) : Int) 1 6 = leZ ((l + 7 : Nat) : Int) 6 := by
  show (bif decide (((l + 7 : Nat) : Int) ≥ 1) then decide (((l + 7 : Nat) : Int) ≤ 6) else false) = false
  rw [decide_eq_false (show ¬ ((l + 7 : Nat) : Int) ≤ 6 by omega)]
  cases decide (((l + 7 : Nat) : Int) ≥ 1) <;> rfl
theorem ms_t (base l : Nat) (v : Value) (cs : List Value) (t0 : Int) : (@funD (frnOf base (tk1 v (l + 7) cs) noF) Try.prog noOrc (fun f => seek f (orcC4 true)) [16, 58] 60 5 16 [works (tokC 0 (l + 7) 0) (rooms t0)] []).map eraseH =
    some (.bool false, [], (((isB (inZ ((l + 7 : Nat) : Int) 1 6 = leZ ((l + 7 : Nat) : Int) 6) && true) && (isB (inZ t0 1 4 = true) && true)) && true)) := by kernel_rfl
theorem ms_f (base l : Nat) (v : Value) (cs : List Value) (t0 : Int) : (@funD (frnOf base (tk1 v (l + 7) cs) noF) Try.prog noOrc (fun f => seek f (orcC4 false)) [16, 58] 60 5 16 [works (tokC 0 (l + 7) 0) (rooms t0)] []).map eraseH =
    some (.bool false, [], ((isB (inZ t0 1 4 = false) && true) && true)) := by kernel_rfl
theorem of_erk {x : Option (Value × Heap × Bool)} {V : Value} {k : Bool} (h : x.map eraseH = some (V, [], k)) (hk : k = true) : ∃ h', x = some (V, h', true) := by
  subst hk
  obtain ⟨r, hr, hr2⟩ := Option.map_eq_some_iff.1 h
  obtain ⟨y, H, k⟩ := r
  simp only [eraseH, Prod.mk.injEq] at hr2
  obtain ⟨rfl, _, rfl⟩ := hr2
  exact ⟨H, hr⟩
theorem many_spec {l : Nat} {cs : List Value} {t0 : Int} : AnsW 16 (l + 7) cs t0 (.bool false) := by
  cases hc : inZ t0 1 4 with
  | true => exact wk_ans (by kernel_rfl) (fun ι => @noExt ι _) (fun ι => @orc_list ι _ _ (orcC4_ok true)) (fun base v => noF_ok) rfl fun base v => of_erk (ms_t base l v cs t0) (by rw [isB_of (many_in l), isB_of hc]; rfl)
  | false => exact wk_ans (by kernel_rfl) (fun ι => @noExt ι _) (fun ι => @orc_list ι _ _ (orcC4_ok false)) (fun base v => noF_ok) rfl fun base v => of_erk (ms_f base l v cs t0) (by rw [isB_of hc]; rfl)

/-! ### the program -/
/-- a region, a region with a condition that holds, a return -/
def early2 [Frn] (E : Env) (fn : Func) (c : Code) (s : St) : Option ((Value × Bool) × Value × Bool) :=
  (regionOf E (sa c) s).bind fun s1 => (regionOf E (sa (sa (sb c))) s1).bind fun s2 => (regionOf E (sa (ca (sb (sa (sb c))))) s2).bind fun s3 => (finK E.P fn .ret s3).map fun r => (evl s2.tmps (cx (sb (sa (sb c)))), r.1, r.2.2)
def formE2 (c : Code) : Prop := c = .seq (sa c) (.seq (.seq (sa (sa (sb c))) (.cond (cx (sb (sa (sb c)))) (.seq (sa (ca (sb (sa (sb c))))) .ret) .skip)) (sb (sb c)))
theorem early2_goes [Frn] {E : Env} {fn : Func} {c : Code} {s : St} {v : Value} (hc : formE2 c) (h : early2 E fn c s = some ((.bool true, true), v, true)) : ∃ s' h', Goes E 20 c s .ret s' ∧ finK E.P fn .ret s' = some (v, h', true) := by
  unfold early2 at h
  obtain ⟨s1, a0, h⟩ := Option.bind_eq_some_iff.1 h
  obtain ⟨s2, a1, h⟩ := Option.bind_eq_some_iff.1 h
  obtain ⟨s3, a2, h⟩ := Option.bind_eq_some_iff.1 h
  obtain ⟨r, h4, h⟩ := Option.map_eq_some_iff.1 h
  obtain ⟨x, y, z⟩ := r
  simp only [Prod.mk.injEq] at h
  obtain ⟨hx, rfl, rfl⟩ := h
  refine ⟨s3, y, ?_, h4⟩
  rw [hc]
  exact Goes.seq (N := 19) (Goes.reg (N := 18) a0) (Goes.seqR (N := 18) (Goes.seq (N := 17) (Goes.reg (N := 16) a1) (Goes.condT (N := 16) hx (Goes.seq (N := 15) (Goes.reg (N := 14) a2) Goes.ret))))
noncomputable abbrev ER [Frn] : Env := ⟨Try.prog, noOrc, funD Try.prog noOrc (fun f => seek f (orcR4 true)) [] 1 1, false, false⟩
theorem ER_ok (ι : Frn) (hc : @ConOk ι Try.prog) : @EnvOk ι (@ER ι) := @fun_goes ι Try.prog noOrc (fun f => seek f (orcR4 true)) [] 1 mixed rfl (@noExt ι _) (@orc_list ι _ _ (orcR4_ok true)) hc 1
noncomputable def vwC : Code := (Try.f18.body.getD .skip)
theorem vw_form : formE2 vwC := by
  unfold formE2
  kernel_rfl
def over6 (l : Nat) : Bool := decide ((6 : Int) < ((l + 7 : Nat) : Int))
theorem over6_true (l : Nat) : over6 l = true := decide_eq_true (by omega)
theorem vw_early (base l : Nat) (v : Value) (cs : List Value) (t0 : Int) : @early2 (frnOf base (tk1 v (l + 7) cs) noF) (@ER (frnOf base (tk1 v (l + 7) cs) noF)) Try.f18 vwC (startS Try.f18 [works (tokC 0 (l + 7) 0) (rooms t0)] []) =
    some ((.bool (over6 l), true), .bool false, isB (inZ t0 1 4 = true) && true) := by kernel_rfl
theorem mi_f (base l : Nat) (v : Value) (cs : List Value) (t0 : Int) : (@funD (frnOf base (tk1 v l cs) noF) Try.prog noOrc (fun f => seek f (orcR4 false)) [18] 60 5 18 [works (tokC 0 l 0) (rooms t0)] []).map eraseH =
    some (.bool false, [], isB (inZ t0 1 4 = false) && true) := by kernel_rfl
theorem many_impl {l : Nat} {cs : List Value} {t0 : Int} : AnsW 18 (l + 7) cs t0 (.bool false) := by
  cases hc : inZ t0 1 4 with
  | false => exact wk_ans (by kernel_rfl) (fun ι => @noExt ι _) (fun ι => @orc_list ι _ _ (orcR4_ok false)) (fun base v => noF_ok) rfl fun base v => of_erk (mi_f base (l + 7) v cs t0) (by rw [isB_of hc]; rfl)
  | true =>
    intro w v hv
    let ι : Frn := frnOf w.heap.size (tk1 v (l + 7) cs) noF
    have he := vw_early w.heap.size l v cs t0
    rw [over6_true, isB_of hc] at he
    obtain ⟨s', h', hg, hf⟩ := @early2_goes ι _ _ _ _ _ vw_form he
    have ht : @VR ι (fun _ => none) (tokC 0 (l + 7) 0) v := tokC_VR (ts := tk1 v (l + 7) cs) rfl hv
    refine (@goes_call ι (@ER ι) (ER_ok ι noF_ok) mixed 18 Try.f18 vwC Try.func18 (by kernel_rfl) (by kernel_rfl) _ _ _ _ _ _ _ hg hf (fun _ => none) [works v (rooms t0)] w w.heap.size (@VRL.cons ι _ _ _ _ _ (works_vr ht) (@VRL.nil ι _)) (@HeapR.start ι w (tk1_in hv.1)) (Nat.le_refl _)).mono fun e w' hx => ?_
    obtain ⟨u, μ', rfl, _, hu, _, hbl⟩ := hx
    exact ⟨u, rfl, bareP_VR hu rfl, hbl⟩
/-- program and model tell alike whether works are valid -/
theorem works_same {l : Nat} {cs : List Value} {t0 : Int} (hb : rowsB batK l cs = true) (hw : cs.all wfC = true) : ∃ b : Bool, AnsW 16 l cs t0 (.bool b) ∧ AnsW 18 l cs t0 (.bool b) := by
  by_cases h6 : l ≤ 6
  · obtain ⟨V, hV, hf⟩ := wk_val (t0 := t0) (vw_run h6) hb hw
    obtain ⟨vs, rfl, hfit⟩ := hV
    obtain ⟨b, rfl⟩ : ∃ b, vs = [.bool b] := by
      match vs, hfit with
      | [v], h =>
        have h : (fitP (.one .b) v && true) = true := h
        rw [Bool.and_true] at h
        cases v with
        | bool b => exact ⟨b, rfl⟩
        | _ => cases h
      | [], h => cases h
      | v :: _ :: _, h =>
        have h : (fitP (.one .b) v && false) = true := h
        rw [Bool.and_false] at h
        cases h
    exact ⟨b, wk_ans vwUs_ok (fun ι => noX) (fun ι => @orc_list ι _ _ orcWnOk) (fun base v => noF_ok) rfl fun base v => (hf base v).1, wk_ans vwUs_ok (fun ι => noX) (fun ι => @orc_list ι _ _ orcWnOk) (fun base v => noF_ok) rfl fun base v => (hf base v).2⟩
  · obtain ⟨k, rfl⟩ : ∃ k, l = k + 7 := ⟨l - 7, by omega⟩
    exact ⟨false, many_spec, many_impl⟩
end Go.Proofs.Ytigegnkifeljhaa
end
