/-
  The integer that is nearest to a narrow number, held between two ends: held first or made whole first. No condition; nothing of one program stands here.
-/
import Derived.Test.YtljmhdaphpdkgaaFs
namespace Sx
open Go Ev Ieee

theorem isN_quiet (g : Bool) (q : Nat) : isN .f64 (double.write (.nan g (double.quiet q))) = true := by
  have hb : (double.quiet q).testBit 51 = true := by
    unfold Format.quiet
    rw [Nat.testBit_or]
    have : (2 ^ (double.fractionBits - 1)).testBit 51 = true := by decide
    rw [this, Bool.or_true]
  have hm : (double.quiet q % double.binade).testBit 51 = true := by
    rw [show double.binade = 2 ^ 52 from rfl, Nat.testBit_mod_two_pow, hb]; decide
  have h0 : double.quiet q % double.binade ≠ 0 := fun e => by rw [e] at hm; simp at hm
  have h1 : double.quiet q % double.binade < double.binade := Nat.mod_lt _ (Nat.two_pow_pos _)
  have ew : double.signWeight = 9223372036854775808 := by decide
  have eb : double.binade = 4503599627370496 := by decide
  have ei : double.infRung = 9218868437227405312 := by decide
  show (double.read (double.word g (double.infRung + double.quiet q % double.binade))).isNaN = true
  generalize double.quiet q % double.binade = t at h0 h1
  have e : double.word g (double.infRung + t) % double.signWeight = double.infRung + t := Format.word_mod double g (by rw [ei, ew]; omega)
  unfold Format.read
  simp only [e]
  rw [if_neg (by omega), if_neg (by omega), if_neg (by omega)]
  rfl

/-! ### numbers made whole, and cut to integers -/
/-- made whole, to the nearest, ties to the even one -/
def rteF (a : Nat) : Nat :=
  match double.read a with
  | .nan _ _ => qn .f64
  | d => double.write (d.integral .even)
def rteO : Sig
  | [.float .f64 a] => some (.float .f64 (rteF a), true)
  | _ => none
theorem toIntegral_eq (s : String) (x : Nat) : Extern.MathFloor.toIntegral s .even #[.float .f64 x] = (match FloatKind.f64.decode x with
    | .nan s t =>
      if FloatKind.f64.format.quiet t = t then pure (.float .f64 x) else do
      let kept ← choose (.extern "math.Floor,Ceil,Trunc,RoundToEven.signallingNaN kept" 2)
      pure (.float .f64 (if kept == 1 then x else FloatKind.f64.encode (.nan s (FloatKind.f64.format.quiet t))))
    | d => pure (.float .f64 (FloatKind.f64.encode (d.integral .even)))) := rfl
theorem rte_one {P : Program} {f : Nat} {s : String} (hf : IsExt P f (Extern.MathFloor.toIntegral s .even)) : ExtOne P f rteO := by
  intro args v k he hk μ cargs ha w
  unfold rteO at he
  split at he
  · rename_i a
    simp only [Option.some.injEq, Prod.mk.injEq] at he
    obtain ⟨rfl, rfl⟩ := he
    obtain ⟨y, rfl, hy⟩ := one_arg ha
    obtain ⟨x, rfl, rfl⟩ := hy.float_inv
    cases hx : isN .f64 x with
    | true =>
      obtain ⟨g, q, e⟩ := read_N hx
      obtain ⟨g', q', e'⟩ := read_N (isN_qn .f64)
      have e1 : FloatKind.f64.decode x = .nan g q := e
      have e2 : rteF (cn .f64 x) = qn .f64 := by
        rw [cn_of_N hx]
        unfold rteF
        rw [show double.read (qn .f64) = .nan g' q' from e']
      rw [e2]
      by_cases hq : FloatKind.f64.format.quiet q = q
      · refine ⟨.float .f64 x, .inl (ext_run hf ?_), .float _ _ _ (cn_of_N hx).symm⟩
        rw [toIntegral_eq, e1]
        simp only [hq, if_true]
        rfl
      · have hn2 : isN .f64 (FloatKind.f64.encode (.nan g (FloatKind.f64.format.quiet q))) = true := by
          exact isN_quiet g q
        refine ⟨.float .f64 (if (Question.extern "math.Floor,Ceil,Trunc,RoundToEven.signallingNaN kept" 2).cut (w.tape w.drawn (Question.extern "math.Floor,Ceil,Trunc,RoundToEven.signallingNaN kept" 2)) == 1 then x else FloatKind.f64.encode (.nan g (FloatKind.f64.format.quiet q))), .inr (ext_run hf ?_), .float _ _ _ ?_⟩
        · rw [toIntegral_eq, e1]
          simp only [hq, if_false]
          simp [Question.forced]
        · split
          · rw [cn_of_N hx]
          · rw [cn_of_N hn2]
    | false =>
      rw [cn_of_not hx]
      have hr : rteF x = FloatKind.f64.encode ((FloatKind.f64.decode x).integral .even) := by
        unfold rteF
        cases e : double.read x with
        | nan g q => rw [isN, show FloatKind.f64.format.read x = .nan g q from e] at hx; cases hx
        | infinity g => show double.write ((Datum.infinity g).integral .even) = double.write ((double.read x).integral .even); rw [e]
        | number g m q => show double.write ((Datum.number g m q).integral .even) = double.write ((double.read x).integral .even); rw [e]
      have hd : isN .f64 (rteF x) = false := by
        rw [hr]
        cases e : FloatKind.f64.decode x with
        | nan g q => rw [isN, show FloatKind.f64.format.read x = .nan g q from e] at hx; cases hx
        | infinity g => exact write_cn .f64 rfl
        | number g m q => exact write_cn .f64 rfl
      refine ⟨.float .f64 (rteF x), .inl (ext_run hf ?_), .float _ _ _ (cn_of_not hd).symm⟩
      rw [toIntegral_eq, hr]
      cases e : FloatKind.f64.decode x with
      | nan g q => rw [isN, show FloatKind.f64.format.read x = .nan g q from e] at hx; cases hx
      | infinity g => rfl
      | number g m q => rfl
  · cases he

/-! ### order, with signs -/
def sv (f : Format) (g : Bool) (r : Nat) : Int := if g then -(valW f r : Int) else (valW f r : Int)
theorem cmp_scaleI (x y : Int) (k : Nat) : compare (x * 2 ^ k) (y * 2 ^ k) = compare x y := by
  have hp : (0 : Int) < 2 ^ k := Int.pow_pos (by decide)
  rcases Int.lt_trichotomy x y with h | h | h
  · rw [Int.compare_eq_lt.2 h, Int.compare_eq_lt.2 (Int.mul_lt_mul_of_pos_right h hp)]
  · subst h; rw [Int.compare_eq_eq.2 rfl, Int.compare_eq_eq.2 rfl]
  · rw [Int.compare_eq_gt.2 h, Int.compare_eq_gt.2 (Int.mul_lt_mul_of_pos_right h hp)]
theorem signed_scale (g : Bool) (m a b c : Nat) (h : m * 2 ^ c = b) : signed g m a * 2 ^ (c - a) = (if a ≤ c then (if g then -(b : Int) else (b : Int)) else signed g m a * 2 ^ (c - a)) := by
  split
  · rename_i hac
    subst h
    have e : (m <<< a : Nat) * 2 ^ (c - a) = m * 2 ^ c := by rw [Nat.shiftLeft_eq, Nat.mul_assoc, ← Nat.pow_add, Nat.add_sub_cancel' hac]
    have e' : ((m <<< a : Nat) : Int) * 2 ^ (c - a) = ((m * 2 ^ c : Nat) : Int) := by rw [← e]; push_cast; rfl
    unfold signed
    cases g
    · exact e'
    · show -((m <<< a : Nat) : Int) * 2 ^ (c - a) = _
      rw [Int.neg_mul, e']; rfl
  · rfl
theorem order_sv (f : Format) {g h : Bool} {a b : Nat} (ha : a < f.infRung) (hb : b < f.infRung) : f.order (f.word g a) (f.word h b) = some (compare (sv f g a) (sv f h b)) := by
  obtain ⟨m, i, h1, h2, h3, _⟩ := read_word f (g := g) ha
  obtain ⟨n, j, h4, h5, h6, _⟩ := read_word f (g := h) hb
  unfold Format.order
  rw [h1, h4]
  show some (compare (signed g m (i - min i j).toNat) (signed h n (j - min i j).toNat)) = _
  unfold unitsOf at h3 h6
  have q1 := signed_scale g m (i - min i j).toNat _ (i - f.leastPlace).toNat h3
  have q2 := signed_scale h n (j - min i j).toNat _ (j - f.leastPlace).toNat h6
  rw [if_pos (by omega)] at q1 q2
  have k1 : (i - f.leastPlace).toNat - (i - min i j).toNat = (min i j - f.leastPlace).toNat := by omega
  have k2 : (j - f.leastPlace).toNat - (j - min i j).toNat = (min i j - f.leastPlace).toNat := by omega
  rw [k1] at q1
  rw [k2] at q2
  rw [← cmp_scaleI _ _ (min i j - f.leastPlace).toNat, q1, q2]
  rfl
theorem flt_sv (k : FloatKind) {g h : Bool} {a b : Nat} (ha : a < k.format.infRung) (hb : b < k.format.infRung) : flt k (k.format.word g a) (k.format.word h b) = decide (sv k.format g a < sv k.format h b) := by
  unfold flt
  rw [order_sv k.format ha hb]
  rcases Int.lt_trichotomy (sv k.format g a) (sv k.format h b) with h | h | h
  · rw [Int.compare_eq_lt.2 h, decide_eq_true h]; rfl
  · rw [Int.compare_eq_eq.2 h, decide_eq_false (by omega)]; rfl
  · rw [Int.compare_eq_gt.2 h, decide_eq_false (by omega)]; rfl
theorem fgt_sv (k : FloatKind) {g h : Bool} {a b : Nat} (ha : a < k.format.infRung) (hb : b < k.format.infRung) : fgt k (k.format.word g a) (k.format.word h b) = decide (sv k.format h b < sv k.format g a) := by
  unfold fgt
  rw [order_sv k.format ha hb]
  rcases Int.lt_trichotomy (sv k.format g a) (sv k.format h b) with h | h | h
  · rw [Int.compare_eq_lt.2 h, decide_eq_false (by omega)]; rfl
  · rw [Int.compare_eq_eq.2 h, decide_eq_false (by omega)]; rfl
  · rw [Int.compare_eq_gt.2 h, decide_eq_true h]; rfl

/-! ### whole numbers -/
def dnK : Nat := 1074
def rt (y : Nat) : Nat := rungOf double (rne (valW double y) dnK) 0
theorem rt_mono {x y : Nat} (h : x ≤ y) : rt x ≤ rt y :=
  rung_mono double (base := double.leastPlace) (by decide) (by decide) (Int.le_refl _) (Nat.mul_le_mul_right _ (rne_le (valW_mono double h)))
theorem rteF_word {g : Bool} {y : Nat} (hy : y < inf64) : rteF (double.word g y) = double.word g (rt y) := by
  obtain ⟨m, e, h1, h2, h3, _⟩ := read_word double (g := g) (r := y) (by rw [inf64_eq]; exact hy)
  unfold rteF
  rw [h1]
  show double.write (.number g (Toward.even.cut g (m <<< e.toNat) (-e).toNat) 0) = _
  rw [write_num]
  have hl : double.leastPlace = -1074 := by decide
  have hk := kept_units (m := m) (e := e) (L := 0) (base := -1074) (by omega) (by decide)
  rw [show (e - 0).toNat = e.toNat by omega, show (0 - e).toNat = (-e).toNat by omega] at hk
  rw [cut_rne] at hk ⊢
  rw [hk]
  unfold rt
  rw [← h3, hl]
  rfl
/-- the integer -/
def whole (y : Nat) : Nat := valW double y / 2 ^ dnK
theorem whole_mono {x y : Nat} (h : x ≤ y) : whole x ≤ whole y := Nat.div_le_div_right (valW_mono double h)
theorem ftoi_word {g : Bool} {y : Nat} (hy : y < inf64) : (FloatKind.f64.decode (double.word g y)).toInt .zero = some (if g then -(whole y : Int) else (whole y : Int)) := by
  obtain ⟨m, e, h1, h2, h3, _⟩ := read_word double (g := g) (r := y) (by rw [inf64_eq]; exact hy)
  have hl : double.leastPlace = -1074 := by decide
  rw [hl] at h2 h3
  show (double.read (double.word g y)).toInt .zero = _
  rw [h1]
  show some (signed g (Toward.zero.cut g (m <<< e.toNat) (-e).toNat) 0) = _
  have hw : Toward.zero.cut g (m <<< e.toNat) (-e).toNat = whole y := by
    unfold whole
    rw [← h3]
    unfold unitsOf
    have hz : Toward.zero.cut g (m <<< e.toNat) (-e).toNat = (m <<< e.toNat) / 2 ^ (-e).toNat := by
      unfold Toward.cut
      simp only [Bool.toNat_false, Nat.add_zero, Nat.shiftLeft_eq, Nat.one_mul]
      rcases Nat.le_total (-e).toNat ((m * 2 ^ e.toNat).log2 + 2) with h | h
      · rw [Nat.min_eq_left h]
      · rw [Nat.min_eq_right h]
        have hlt : m * 2 ^ e.toNat < 2 ^ ((m * 2 ^ e.toNat).log2 + 1) := Nat.lt_log2_self
        have h4 : m * 2 ^ e.toNat < 2 ^ ((m * 2 ^ e.toNat).log2 + 2) := Nat.lt_of_lt_of_le hlt (Nat.pow_le_pow_right (by decide) (by omega))
        have h5 : m * 2 ^ e.toNat < 2 ^ (-e).toNat := Nat.lt_of_lt_of_le h4 (Nat.pow_le_pow_right (by decide) h)
        rw [Nat.div_eq_of_lt h4, Nat.div_eq_of_lt h5]
    rw [hz, Nat.shiftLeft_eq]
    rcases Int.le_total 0 e with h0 | h0
    · rw [show (-e).toNat = 0 by omega, show (e - -1074).toNat = e.toNat + dnK by unfold dnK; omega, Nat.pow_zero, Nat.div_one, Nat.pow_add, ← Nat.mul_assoc, Nat.mul_div_cancel _ (Nat.two_pow_pos _)]
    · have hs : dnK = (e - -1074).toNat + (-e).toNat := by unfold dnK; omega
      have h6 : (2 : Nat) ^ dnK = 2 ^ (e - -1074).toNat * 2 ^ (-e).toNat := by rw [← Nat.pow_add, ← hs]
      rw [show e.toNat = 0 by omega, Nat.pow_zero, Nat.mul_one, h6, Nat.mul_comm m, Nat.mul_div_mul_left _ _ (Nat.two_pow_pos _)]
  rw [hw]
  cases g <;> simp [signed]
/-! ### the nearest count -/
/-- -32768, 32767 -/
def loW : Nat := 3338665984
def hiW : Nat := 1191181824
def loD : Nat := 13898108450065350656
def hiD : Nat := 4674736138332667904
def cntV (a : Nat) : Int := bif isN .f32 a then 0 else bif flt .f32 a loW then -32768 else bif fgt .f32 a hiW then 32767 else ftoi .f64 (rteF (fcv .f32 .f64 a))
theorem order_read {k : FloatKind} {a b c : Nat} (h : k.format.read a = k.format.read b) : flt k a c = flt k b c ∧ fgt k a c = fgt k b c := by
  unfold flt fgt Format.order
  rw [h]; exact ⟨rfl, rfl⟩
theorem ftoi_val {g : Bool} {y : Nat} (hy : y < inf64) : ftoi .f64 (double.word g y) = if g then -(whole y : Int) else (whole y : Int) := by
  unfold ftoi
  rw [ftoi_word hy]
theorem ftoi_in {g : Bool} {y : Nat} (hy : y < inf64) (h : if g then whole y ≤ 32768 else whole y ≤ 32767) : ftoiOk .f64 .i16 (double.word g y) = true := by
  unfold ftoiOk
  rw [ftoi_word hy]
  cases g with
  | false =>
    have h : whole y ≤ 32767 := h
    have h1 : IntKind.i16.min ≤ (whole y : Int) := by show (-32768 : Int) ≤ _; omega
    have h2 : (whole y : Int) ≤ IntKind.i16.max := by show _ ≤ (32767 : Int); omega
    show (decide (IntKind.i16.min ≤ (whole y : Int)) && decide ((whole y : Int) ≤ IntKind.i16.max)) = true
    rw [decide_eq_true h1, decide_eq_true h2]; rfl
  | true =>
    have h : whole y ≤ 32768 := h
    have h1 : IntKind.i16.min ≤ -(whole y : Int) := by show (-32768 : Int) ≤ _; omega
    have h2 : -(whole y : Int) ≤ IntKind.i16.max := by show _ ≤ (32767 : Int); omega
    show (decide (IntKind.i16.min ≤ -(whole y : Int)) && decide (-(whole y : Int) ≤ IntKind.i16.max)) = true
    rw [decide_eq_true h1, decide_eq_true h2]; rfl
/-- what a number that is not NaN is, held against both ends -/
structure Ends (a : Nat) : Prop where
  lo : flt .f32 a loW = true → fgt .f64 (rteF (fcv .f32 .f64 a)) hiD = false ∧ (flt .f64 (rteF (fcv .f32 .f64 a)) loD = true ∨ (flt .f64 (rteF (fcv .f32 .f64 a)) loD = false ∧ ftoi .f64 (rteF (fcv .f32 .f64 a)) = -32768 ∧ ftoiOk .f64 .i16 (rteF (fcv .f32 .f64 a)) = true))
  hi : fgt .f32 a hiW = true → flt .f32 a loW = false ∧ (fgt .f64 (rteF (fcv .f32 .f64 a)) hiD = true ∨ (fgt .f64 (rteF (fcv .f32 .f64 a)) hiD = false ∧ flt .f64 (rteF (fcv .f32 .f64 a)) loD = false ∧ ftoi .f64 (rteF (fcv .f32 .f64 a)) = 32767 ∧ ftoiOk .f64 .i16 (rteF (fcv .f32 .f64 a)) = true))
  mid : flt .f32 a loW = false → fgt .f32 a hiW = false → fgt .f64 (rteF (fcv .f32 .f64 a)) hiD = false ∧ flt .f64 (rteF (fcv .f32 .f64 a)) loD = false ∧ ftoiOk .f64 .i16 (rteF (fcv .f32 .f64 a)) = true
theorem rt_inf {u : Nat} (hu : u < 2139095040) : rt (wide u) < inf64 := by
  have h1 : rt (wide u) ≤ rt (wide 2139095039) := rt_mono (rung_le double (Int.le_refl _) (Nat.mul_le_mul_right _ (valW_mono single (by omega))))
  have h2 : rt (wide 2139095039) < inf64 := by decide +kernel
  exact Nat.lt_of_le_of_lt h1 h2
theorem wide_mono {u v : Nat} (h : u ≤ v) : wide u ≤ wide v := rung_le double (Int.le_refl _) (Nat.mul_le_mul_right _ (valW_mono single h))
theorem loW_word : loW = FloatKind.f32.format.word true 1191182336 := by decide +kernel
theorem hiW_word : hiW = FloatKind.f32.format.word false 1191181824 := by decide +kernel
theorem loD_word : loD = FloatKind.f64.format.word true 4674736413210574848 := by decide +kernel
theorem hiD_word : hiD = FloatKind.f64.format.word false 4674736138332667904 := by decide +kernel
theorem in_a1 : 1191182336 < FloatKind.f32.format.infRung := by decide +kernel
theorem in_a2 : 1191181824 < FloatKind.f32.format.infRung := by decide +kernel
theorem in_b1 : 4674736413210574848 < FloatKind.f64.format.infRung := by decide +kernel
theorem in_b2 : 4674736138332667904 < FloatKind.f64.format.infRung := by decide +kernel
theorem rt_n1 : rt (wide 1191182336) = 4674736413210574848 := by decide +kernel
theorem rt_n2 : rt (wide 1191181824) = 4674736138332667904 := by decide +kernel
theorem wh_w1 : whole 4674736413210574848 = 32768 := by decide +kernel
theorem wh_w2 : whole 4674736138332667904 = 32767 := by decide +kernel
theorem va_s1 : valW single 1191182336 < valW single 1191182337 := by decide +kernel
theorem va_s2 : valW single 1191181824 < valW single 1191181825 := by decide +kernel
theorem sv_t (k : FloatKind) (r : Nat) : sv k.format true r = -(valW k.format r : Int) := rfl
theorem sv_f (k : FloatKind) (r : Nat) : sv k.format false r = (valW k.format r : Int) := rfl
/-- the ends, as orders of numbers that are not negative -/
theorem ends_true {a N x y A B C D w u : Nat} (a1 : flt .f32 a loW = decide (-(x : Int) < -(A : Int))) (a2 : fgt .f32 a hiW = decide ((B : Int) < -(x : Int))) (b1 : flt .f64 N loD = decide (-(y : Int) < -(C : Int))) (b2 : fgt .f64 N hiD = decide ((D : Int) < -(y : Int)))
    (hv : ftoi .f64 N = -(w : Int)) (hk : w ≤ 32768 → ftoiOk .f64 .i16 N = true) (h1 : A < x → u ≤ y ∧ C ≤ y) (h2 : ¬ A < x → y ≤ C ∧ w ≤ 32768) (h3 : y = C → w = 32768) :
    (flt .f32 a loW = true → fgt .f64 N hiD = false ∧ (flt .f64 N loD = true ∨ (flt .f64 N loD = false ∧ ftoi .f64 N = -32768 ∧ ftoiOk .f64 .i16 N = true))) ∧
    (fgt .f32 a hiW = true → flt .f32 a loW = false ∧ (fgt .f64 N hiD = true ∨ (fgt .f64 N hiD = false ∧ flt .f64 N loD = false ∧ ftoi .f64 N = 32767 ∧ ftoiOk .f64 .i16 N = true))) ∧
    (flt .f32 a loW = false → fgt .f32 a hiW = false → fgt .f64 N hiD = false ∧ flt .f64 N loD = false ∧ ftoiOk .f64 .i16 N = true) := by
  have c2 : fgt .f64 N hiD = false := by rw [b2]; exact decide_eq_false (by omega)
  refine ⟨fun h => ⟨c2, ?_⟩, fun h => ?_, fun h h' => ⟨c2, ?_⟩⟩
  · rw [a1, decide_eq_true_eq] at h
    have hv1 := h1 (by omega)
    by_cases hc : C < y
    · exact .inl (by rw [b1]; exact decide_eq_true (by omega))
    · have he := h3 (by omega)
      exact .inr ⟨by rw [b1]; exact decide_eq_false (by omega), by rw [hv, he]; rfl, hk (by omega)⟩
  · rw [a2, decide_eq_true_eq] at h
    omega
  · rw [a1, decide_eq_false_iff_not] at h
    have hv1 := h2 (by omega)
    exact ⟨by rw [b1]; exact decide_eq_false (by omega), hk hv1.2⟩
theorem ends_false {a N x y A B C D w : Nat} (a1 : flt .f32 a loW = decide ((x : Int) < -(A : Int))) (a2 : fgt .f32 a hiW = decide ((B : Int) < (x : Int))) (b1 : flt .f64 N loD = decide ((y : Int) < -(C : Int))) (b2 : fgt .f64 N hiD = decide ((D : Int) < (y : Int)))
    (hv : ftoi .f64 N = (w : Int)) (hk : w ≤ 32767 → ftoiOk .f64 .i16 N = true) (h1 : B < x → D ≤ y) (h2 : ¬ B < x → y ≤ D ∧ w ≤ 32767) (h3 : y = D → w = 32767) :
    (flt .f32 a loW = true → fgt .f64 N hiD = false ∧ (flt .f64 N loD = true ∨ (flt .f64 N loD = false ∧ ftoi .f64 N = -32768 ∧ ftoiOk .f64 .i16 N = true))) ∧
    (fgt .f32 a hiW = true → flt .f32 a loW = false ∧ (fgt .f64 N hiD = true ∨ (fgt .f64 N hiD = false ∧ flt .f64 N loD = false ∧ ftoi .f64 N = 32767 ∧ ftoiOk .f64 .i16 N = true))) ∧
    (flt .f32 a loW = false → fgt .f32 a hiW = false → fgt .f64 N hiD = false ∧ flt .f64 N loD = false ∧ ftoiOk .f64 .i16 N = true) := by
  have c1 : flt .f64 N loD = false := by rw [b1]; exact decide_eq_false (by omega)
  have c2 : flt .f32 a loW = false := by rw [a1]; exact decide_eq_false (by omega)
  refine ⟨fun h => ?_, fun h => ⟨c2, ?_⟩, fun h h' => ?_⟩
  · rw [c2] at h; cases h
  · rw [a2, decide_eq_true_eq] at h
    have hv1 := h1 (by omega)
    by_cases hc : D < y
    · exact .inl (by rw [b2]; exact decide_eq_true (by omega))
    · have he := h3 (by omega)
      exact .inr ⟨by rw [b2]; exact decide_eq_false (by omega), c1, by rw [hv, he]; rfl, hk (by omega)⟩
  · rw [a2, decide_eq_false_iff_not] at h'
    have hv1 := h2 (by omega)
    exact ⟨by rw [b2]; exact decide_eq_false (by omega), c1, hk hv1.2⟩
theorem past {u R x : Nat} {f : Format} (hx : valW f u = x) (hs : valW f R < valW f (R + 1)) : (valW f R < x → R ≤ u) ∧ (¬ valW f R < x → u ≤ R) := by
  subst hx
  constructor
  · intro h
    exact Nat.le_of_not_lt fun hc => by
      have := valW_mono f (Nat.le_of_lt hc)
      omega
  · intro h
    exact Nat.le_of_not_lt fun hc => by
      have := valW_mono f (show R + 1 ≤ u from hc)
      omega
theorem ends_num {a : Nat} {g : Bool} {u : Nat} (hu : u < 2139095040) (hr : single.read a = single.read (single.word g u)) : Ends a := by
  have hq := rt_inf hu
  have hn : rteF (fcv .f32 .f64 a) = double.word g (rt (wide u)) := by rw [wide_word hu hr, rteF_word (wide_inf hu)]
  have i32 : u < FloatKind.f32.format.infRung := by show u < single.infRung; rw [inf32]; exact hu
  have i64 : rt (wide u) < FloatKind.f64.format.infRung := by show _ < double.infRung; rw [inf64_eq]; exact hq
  have a1 := (order_read (k := .f32) (c := loW) hr).1
  have a2 := (order_read (k := .f32) (c := hiW) hr).2
  rw [loW_word, show single.word g u = FloatKind.f32.format.word g u from rfl, flt_sv .f32 i32 in_a1, ← loW_word] at a1
  rw [hiW_word, show single.word g u = FloatKind.f32.format.word g u from rfl, fgt_sv .f32 i32 in_a2, ← hiW_word] at a2
  have b1 : flt .f64 (rteF (fcv .f32 .f64 a)) loD = decide (sv FloatKind.f64.format g (rt (wide u)) < sv FloatKind.f64.format true 4674736413210574848) := by rw [hn, loD_word]; exact flt_sv .f64 i64 in_b1
  have b2 : fgt .f64 (rteF (fcv .f32 .f64 a)) hiD = decide (sv FloatKind.f64.format false 4674736138332667904 < sv FloatKind.f64.format g (rt (wide u))) := by rw [hn, hiD_word]; exact fgt_sv .f64 i64 in_b2
  have hv : ftoi .f64 (rteF (fcv .f32 .f64 a)) = if g then -(whole (rt (wide u)) : Int) else (whole (rt (wide u)) : Int) := by rw [hn, ftoi_val hq]
  have hk : (if g then whole (rt (wide u)) ≤ 32768 else whole (rt (wide u)) ≤ 32767) → ftoiOk .f64 .i16 (rteF (fcv .f32 .f64 a)) = true := fun h => by rw [hn]; exact ftoi_in hq h
  have p1 := past (f := single) (u := u) rfl va_s1
  have p2 := past (f := single) (u := u) rfl va_s2
  have m1 := fun h => rt_mono (wide_mono (p1.1 h))
  have m2 := fun h => rt_mono (wide_mono (p1.2 h))
  have m3 := fun h => rt_mono (wide_mono (p2.1 h))
  have m4 := fun h => rt_mono (wide_mono (p2.2 h))
  rw [rt_n1] at m1 m2
  rw [rt_n2] at m3 m4
  cases g with
  | true =>
    rw [sv_t, sv_t] at a1 b1
    rw [sv_t, sv_f] at a2 b2
    rw [if_pos rfl] at hv
    rw [if_pos rfl] at hk
    obtain ⟨r1, r2, r3⟩ := ends_true (u := 0) a1 a2 b1 b2 hv hk (fun h => ⟨Nat.zero_le _, valW_mono double (m1 h)⟩) (fun h => ⟨valW_mono double (m2 h), by rw [← wh_w1]; exact whole_mono (m2 h)⟩) (fun h => by
      rw [← wh_w1]
      unfold whole
      exact congrArg (· / 2 ^ dnK) h)
    exact ⟨r1, r2, r3⟩
  | false =>
    rw [sv_f, sv_t] at a1 b1
    rw [sv_f, sv_f] at a2 b2
    rw [if_neg (by decide)] at hv
    rw [if_neg (by decide)] at hk
    obtain ⟨r1, r2, r3⟩ := ends_false a1 a2 b1 b2 hv hk (fun h => valW_mono double (m3 h)) (fun h => ⟨valW_mono double (m4 h), by rw [← wh_w2]; exact whole_mono (m4 h)⟩) (fun h => by
      rw [← wh_w2]
      unfold whole
      exact congrArg (· / 2 ^ dnK) h)
    exact ⟨r1, r2, r3⟩
theorem ends_ok' {a : Nat} (hn : isN .f32 a = false) : Ends a := by
  rcases read_parts a with ⟨g, r, hr, h⟩ | ⟨g, y, h⟩
  · rcases Nat.lt_or_eq_of_le hr with hlt | he
    · exact ends_num (by rw [← inf32]; exact hlt) h
    · subst he
      have e1 : fcv .f32 .f64 a = fcv .f32 .f64 (single.word g single.infRung) := by
        unfold fcv
        rw [show FloatKind.f32.format.read a = FloatKind.f32.format.read (single.word g single.infRung) from h]
      have o1 := fun c => order_read (k := .f32) (c := c) h
      have hi : Ends (single.word g single.infRung) := by
        cases g
        · exact ⟨by decide +kernel, by decide +kernel, by decide +kernel⟩
        · exact ⟨by decide +kernel, by decide +kernel, by decide +kernel⟩
      exact ⟨by rw [(o1 _).1, e1]; exact hi.lo, by rw [(o1 _).2, (o1 _).1, e1]; exact hi.hi, by rw [(o1 _).1, (o1 _).2, e1]; exact hi.mid⟩
  · rw [isN, show FloatKind.f32.format.read a = .nan g y from h] at hn
    cases hn
theorem read_lo : ∃ m e, single.read loW = .number true m e := ⟨8388608, -8, by decide +kernel⟩
theorem read_hi : ∃ m e, single.read hiW = .number false m e := ⟨16776704, -9, by decide +kernel⟩
theorem order_none {a c : Nat} {g : Bool} {m : Nat} {e : Int} (hn : isN .f32 a = false) (hc : single.read c = .number g m e) : single.order a c ≠ none := by
  unfold Format.order
  rw [hc]
  cases h : single.read a with
  | nan g y => rw [isN, show FloatKind.f32.format.read a = .nan g y from h] at hn; cases hn
  | infinity g => exact fun h => by cases h
  | number g m e => exact fun h => by cases h
theorem order_eq {a R : Nat} {h : Bool} (hR : 0 < R) (hi : R < single.infRung) (ho : single.order a (single.word h R) = some .eq) : single.read a = single.read (single.word h R) := by
  obtain ⟨m, e, h1, _⟩ := read_word single (g := h) hi
  rcases read_parts a with ⟨g, r, hr, hq⟩ | ⟨g, y, hq⟩
  · rcases Nat.lt_or_eq_of_le hr with hlt | he
    · have ho2 : single.order (single.word g r) (single.word h R) = some .eq := by
        rw [← ho]; unfold Format.order; rw [hq]
      rw [order_sv single hlt hi, Option.some.injEq, Int.compare_eq_eq] at ho2
      have hp := valW_pos single hR
      have key : g = h ∧ valW single r = valW single R := by
        unfold sv at ho2
        cases g <;> cases h <;> simp at ho2 ⊢ <;> omega
      obtain ⟨rfl, hv⟩ := key
      have := rung_val single hlt
      rw [hv, rung_val single hi] at this
      rw [hq, this]
    · subst he
      unfold Format.order at ho
      rw [h1, hq] at ho
      have hi2 : single.read (single.word g single.infRung) = .infinity g := by cases g <;> decide +kernel
      rw [hi2] at ho
      cases g <;> cases ho
  · unfold Format.order at ho
    rw [hq] at ho
    cases ho
theorem fcv_read {a b : Nat} (h : single.read a = single.read b) : fcv .f32 .f64 a = fcv .f32 .f64 b := by
  unfold fcv
  rw [show FloatKind.f32.format.read a = FloatKind.f32.format.read b from h]
theorem cnt_read {a b : Nat} (h : single.read a = single.read b) : cntV a = cntV b := by
  unfold cntV
  have o := fun c => order_read (k := .f32) (c := c) h
  have hn : isN .f32 a = isN .f32 b := by
    unfold isN
    rw [show FloatKind.f32.format.read a = FloatKind.f32.format.read b from h]
  rw [(o _).1, (o _).2, fcv_read h, hn]
theorem cnt_lo : cntV loW = -32768 ∧ ftoi .f64 (rteF (fcv .f32 .f64 loW)) = -32768 ∧ ftoiOk .f64 .i16 (rteF (fcv .f32 .f64 loW)) = true ∧ fmin .f32 loW hiW = loW := by decide +kernel
theorem cnt_hi : cntV hiW = 32767 ∧ ftoi .f64 (rteF (fcv .f32 .f64 hiW)) = 32767 ∧ ftoiOk .f64 .i16 (rteF (fcv .f32 .f64 hiW)) = true := by decide +kernel
theorem max_at {a c : Nat} : fmax .f32 a c = match single.order a c with
  | none => qn .f32
  | some .lt => c
  | some .gt => a
  | some .eq => if (single.read a).neg then c else a := rfl
theorem min_at {a c : Nat} : fmin .f32 a c = match single.order a c with
  | none => qn .f32
  | some .lt => a
  | some .gt => c
  | some .eq => if (single.read a).neg then a else c := rfl
/-- held first, then made whole -/
theorem held_first {a : Nat} (hn : isN .f32 a = false) : ftoi .f64 (rteF (fcv .f32 .f64 (fmin .f32 (fmax .f32 a loW) hiW))) = cntV a ∧ ftoiOk .f64 .i16 (rteF (fcv .f32 .f64 (fmin .f32 (fmax .f32 a loW) hiW))) = true := by
  have E := ends_ok' hn
  obtain ⟨cl1, cl2, cl3, cl4⟩ := cnt_lo
  obtain ⟨ch1, ch2, ch3⟩ := cnt_hi
  obtain ⟨m, e, rl⟩ := read_lo
  obtain ⟨m', e', rh⟩ := read_hi
  -- behind the greater one of both: the number itself, or the lesser end
  have low : fmax .f32 a loW = loW ∧ cntV a = -32768 ∨ fmax .f32 a loW = a ∧ flt .f32 a loW = false := by
    rw [max_at]
    cases ho : single.order a loW with
    | none => exact absurd ho (order_none hn rl)
    | some o =>
      cases o with
      | lt =>
        refine .inl ⟨rfl, ?_⟩
        have : flt .f32 a loW = true := by show (single.order a loW == some .lt) = true; rw [ho]; rfl
        unfold cntV
        rw [hn, this]; rfl
      | gt => exact .inr ⟨rfl, by show (single.order a loW == some .lt) = false; rw [ho]; rfl⟩
      | eq =>
        have hr := order_eq (by decide) (by decide +kernel) (show single.order a (single.word true 1191182336) = some .eq from by rw [← show loW = single.word true 1191182336 from loW_word]; exact ho)
        rw [← show loW = single.word true 1191182336 from loW_word] at hr
        rw [hr, rl]
        exact .inl ⟨rfl, by rw [cnt_read hr]; exact cl1⟩
  rcases low with ⟨l1, l2⟩ | ⟨l1, l2⟩
  · rw [l1, cl4, l2]; exact ⟨cl2, cl3⟩
  · rw [l1, min_at]
    cases ho : single.order a hiW with
    | none => exact absurd ho (order_none hn rh)
    | some o =>
      cases o with
      | lt =>
        have h2 : fgt .f32 a hiW = false := by show (single.order a hiW == some .gt) = false; rw [ho]; rfl
        obtain ⟨_, _, e3⟩ := E.mid l2 h2
        exact ⟨by unfold cntV; rw [hn, l2, h2]; rfl, e3⟩
      | gt =>
        have h2 : fgt .f32 a hiW = true := by show (single.order a hiW == some .gt) = true; rw [ho]; rfl
        exact ⟨by unfold cntV; rw [hn, l2, h2]; exact ch2, ch3⟩
      | eq =>
        have hr := order_eq (by decide) (by decide +kernel) (show single.order a (single.word false 1191181824) = some .eq from by rw [← show hiW = single.word false 1191181824 from hiW_word]; exact ho)
        rw [← show hiW = single.word false 1191181824 from hiW_word] at hr
        rw [hr, rh]
        exact ⟨by rw [cnt_read hr, ch1]; exact ch2, ch3⟩
/-- made whole first, then held -/
theorem whole_first {a : Nat} (hn : isN .f32 a = false) : (bif fgt .f64 (rteF (fcv .f32 .f64 a)) hiD then some (Value.int .i16 32767, true) else bif flt .f64 (rteF (fcv .f32 .f64 a)) loD then some (Value.int .i16 (-32768), true) else some (Value.int .i16 (ftoi .f64 (rteF (fcv .f32 .f64 a))), ftoiOk .f64 .i16 (rteF (fcv .f32 .f64 a)))) = some (Value.int .i16 (cntV a), true) := by
  have E := ends_ok' hn
  unfold cntV
  rw [hn, cond_false]
  cases h1 : flt .f32 a loW with
  | true =>
    obtain ⟨e1, e2⟩ := E.lo h1
    rw [e1, cond_false, cond_true]
    rcases e2 with e2 | ⟨e2, e3, e4⟩
    · rw [e2, cond_true]
    · rw [e2, cond_false, e3, e4]
  | false =>
    rw [cond_false]
    cases h2 : fgt .f32 a hiW with
    | true =>
      obtain ⟨_, e2⟩ := E.hi h2
      rw [cond_true]
      rcases e2 with e2 | ⟨e1, e2, e3, e4⟩
      · rw [e2, cond_true]
      · rw [e1, cond_false, e2, cond_false, e3, e4]
    | false =>
      obtain ⟨e1, e2, e3⟩ := E.mid h1 h2
      rw [e1, cond_false, e2, cond_false, cond_false, e3]
end Sx
