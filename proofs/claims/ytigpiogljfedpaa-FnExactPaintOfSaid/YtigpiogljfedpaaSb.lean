/-
  Shelves with no pigment: program and model answer false; what an evaluation on an open length tells. No condition.
-/
import Derived.Test.YtigpiogljfedpaaSo
set_option linter.unusedSectionVars false
noncomputable section
namespace Go.Proofs.Ytigpiogljfedpaa
open Go Go.ChangeShapes Go.WideShapes Go.ChangeAt Go.RowKit Ev

def noF : FuncId → Option (List Value → Heap → Option (Value × List (List Value) × Bool)) := fun _ => none
theorem noF_ok {base : Nat} {ts : Toks} {P : Program} : @ConOk (frnOf base ts noF) P := fun f g h => by
  have h : (none : Option (List Value → Heap → Option (Value × List (List Value) × Bool))) = some g := h
  cases h
/-- what an evaluation on an open length tells -/
theorem ans_of_eval {ext : Orc} {us : List FuncId} {cf d f l : Nat} {cs : List Value} {b : Bool} {t0 t1 t2 t3 t4 t5 : Int} (hus : us.all (funcOk Try.prog) = true) (hext : ∀ ι, @ExtOk ι Try.prog ext)
    (he : ∀ base v c, (@funD (frnOf base [(v, l, cs)] noF) Try.prog ext noOrc us cf d f [shelf (tok 0 l c) (tins t0 t1 t2 t3 t4 t5)] []).map eraseH = some (.bool b, [], true)) : AnsF f l cs (tins t0 t1 t2 t3 t4 t5) (.bool b) := fun w v hv => by
  obtain ⟨a, c, rfl, _⟩ := id hv
  let ι : Frn := frnOf w.heap.size [(.slice a l c, l, cs)] noF
  have hw : @FrnIn ι w := frn_in fun k v' l' cs' hk => by
    match k, hk with
    | 0, hk => cases hk; exact hv
  have ht : @VR ι (fun _ => none) (tok 0 l c) (.slice a l c) := tok_VR (ts := [(.slice a l c, l, cs)]) rfl hv
  obtain ⟨r, hr, hr2⟩ := Option.map_eq_some_iff.1 (he w.heap.size (.slice a l c) c)
  obtain ⟨x, H, k⟩ := r
  simp only [eraseH, Prod.mk.injEq] at hr2
  obtain ⟨rfl, _, rfl⟩ := hr2
  refine (@fun_call ι Try.prog ext noOrc us cf d mixed hus (hext ι) (fun f g e => by cases e) noF_ok f _ _ _ hr rfl rfl _ _ (@VRL.cons ι _ _ _ _ _ (shelf_vr ht) (@VRL.nil ι _)) w hw).mono fun e w' hx => ?_
  obtain ⟨y, rfl, hy, hbl⟩ := hx
  rw [@VR.bool_inv ι _ _ _ hy]
  exact ⟨rfl, hbl⟩
theorem nil_impl (base : Nat) (v : Value) (c : Nat) (cs : List Value) (t0 t1 t2 t3 t4 t5 : Int) :
    (@funD (frnOf base [(v, 0, cs)] noF) Try.prog noOrc noOrc [18] 60 5 18 [shelf (tok 0 0 c) (tins t0 t1 t2 t3 t4 t5)] []).map eraseH = some (.bool false, [], true) := by kernel_rfl
theorem nil_spec (base : Nat) (v : Value) (c : Nat) (cs : List Value) (t0 t1 t2 t3 t4 t5 : Int) :
    (@funD (frnOf base [(v, 0, cs)] noF) Try.prog noOrc noOrc [16, 50] 60 5 16 [shelf (tok 0 0 c) (tins t0 t1 t2 t3 t4 t5)] []).map eraseH = some (.bool false, [], true) := by kernel_rfl
/-- a shelf with no pigment: both answer false -/
theorem nil_same {cs : List Value} {t0 t1 t2 t3 t4 t5 : Int} : AnsF 16 0 cs (tins t0 t1 t2 t3 t4 t5) (.bool false) ∧ AnsF 18 0 cs (tins t0 t1 t2 t3 t4 t5) (.bool false) :=
  ⟨ans_of_eval (ext := noOrc) (us := [16, 50]) (cf := 60) (d := 5) (by kernel_rfl) (fun ι => @noExt ι _) fun base v c => nil_spec base v c cs t0 t1 t2 t3 t4 t5,
   ans_of_eval (ext := noOrc) (us := [18]) (cf := 60) (d := 5) (by kernel_rfl) (fun ι => @noExt ι _) fun base v c => nil_impl base v c cs t0 t1 t2 t3 t4 t5⟩
end Go.Proofs.Ytigpiogljfedpaa
end
