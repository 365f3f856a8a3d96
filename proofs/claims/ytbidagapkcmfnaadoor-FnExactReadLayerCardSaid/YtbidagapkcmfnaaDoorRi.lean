/-
  A number read from its text, by the program and by the model. No condition but that the text has at most 2^20 bytes and what some package-level variables hold.
-/
import Derived.Test.YtbidagapkcmfnaaDoorRp
import Derived.Test.YtbidagapkcmfnaaDoorRn
noncomputable section
namespace Go.Proofs.YtbidagapkcmfnaaDoor
namespace Tx
open Go Go.RowKit
/-- the answer: the number, and what is wrong -/
def rnA (s : ByteArray) : Nat := if okN s.data.toList = true then nuN s.data.toList else 0
def rnC (s : ByteArray) : Int := if okN s.data.toList = true then 0 else 5
def RnQ (s : ByteArray) (w : World) (e : Ending) (w' : World) : Prop := e = .returned (.tuple #[.float .f32 (rnA s), .int .i64 (rnC s)]) ∧ Below w.heap.size w w'
theorem rn_no {s : ByteArray} (h : okN s.data.toList = false) : rnA s = 0 ∧ rnC s = 5 := by
  unfold rnA rnC
  rw [h]
  exact ⟨rfl, rfl⟩
theorem rn_yes {s : ByteArray} (h : okN s.data.toList = true) : rnA s = nuN s.data.toList ∧ rnC s = 0 := by
  unfold rnA rnC
  rw [h]
  exact ⟨rfl, rfl⟩
theorem ok_lt {l : List UInt8} (h : okN l = true) : nuN l < 4294967296 := hv_can (Bool.and_eq_true_iff.1 h).1
set_option maxHeartbeats 1000000 in
set_option maxRecDepth 100000 in
theorem rs_calls (s : ByteArray) (w : World) : Calls Tryd.prog 6 #[.string s] w (RnQ s w) := by
  have h := rd_calls s w
  unfold RdQ at h
  unfold RnQ
  cases hk : okN s.data.toList with
  | false =>
    rw [hk] at h
    rw [(rn_no hk).1, (rn_no hk).2]
    clear hk
    go_enter Tryd.func6, Tryd.ntmps6
    go_wp2_with (go_at_call 15; refine h.mono ?_; rintro e w' ⟨a, rfl, _, hb⟩)
    go_ret2
    exact ⟨rfl, hb⟩
  | true =>
    rw [hk] at h
    rw [(rn_yes hk).1, (rn_yes hk).2]
    clear hk
    go_enter Tryd.func6, Tryd.ntmps6
    go_wp2_with (go_at_call 15; refine h.mono ?_; rintro e w' ⟨a, rfl, ha, hb⟩)
    go_ret2
    exact ⟨rfl, hb⟩
theorem list_ext {a b : ByteArray} (h : a.data.toList = b.data.toList) : a = b := ByteArray.ext (Array.ext' h)
/-- a number has one text -/
theorem text_iff (s : ByteArray) (n : Nat) (hn : canH s.data.toList = true → n = hvL s.data.toList) (h32 : n < 4294967296) : hexB (nB n) = s ↔ okN s.data.toList = true ∧ n = nuN s.data.toList := by
  constructor
  · intro h
    have hc : canH s.data.toList = true := by rw [← h]; exact hexB_can _
    have hv : hvL s.data.toList = nB n := by rw [← h]; exact hexB_val _ (nB_lt h32)
    have he := hn hc
    refine ⟨?_, he⟩
    unfold okN
    rw [hc, hv]
    refine (Bool.true_and _).trans (decide_eq_true ?_)
    exact congrArg nB (he.trans hv).symm
  · rintro ⟨h, he⟩
    have p := Bool.and_eq_true_iff.1 h
    have p2 := of_decide_eq_true p.2
    unfold nuN at he
    rw [he, p2]
    exact list_ext (can_hex p.1)
theorem toList_inj {a b : ByteArray} (h : a.toList = b.toList) : a = b := by
  rw [ByteArray.toList_eq, ByteArray.toList_eq] at h
  exact ByteArray.ext (Array.ext' h)
def PuC (s : ByteArray) (n : Nat) (ev : Value) : Prop := (ev = .nilIface ∧ (canH (bL s) = true → n = hvL (bL s))) ∨ ((∃ te pe, ev = .iface te pe) ∧ canH (bL s) = false)
set_option maxHeartbeats 1000000 in
set_option maxRecDepth 100000 in
theorem ri_calls (s : ByteArray) (hs : s.size ≤ 1048576) (w : World) (hE : EnvOk w) : Calls Tryd.prog 7 #[.string s] w (RnQ s w) := by
  have hF := ffb_run
  have h : Calls Tryd.prog 16 #[.string s, .int .i64 16, .int .i64 32] w fun e w' => ∃ (n : Nat) (ev : Value), e = .returned (.tuple #[.int .u64 n, ev]) ∧ n < 4294967296 ∧ Below w.heap.size w w' ∧ PuC s n ev := (pu_calls s hs w hE).mono fun e w' ⟨n, ev, a, b, c, d⟩ => ⟨n, ev, a, b, c, d⟩
  have HE := Lib.hid hE.1
  clear hE
  unfold RnQ
  cases hk : okN s.data.toList with
  | true =>
    rw [(rn_yes hk).1, (rn_yes hk).2]
    have HK := Lib.hid hk
    clear hk
    go_enter Tryd.func7, Tryd.ntmps7
    go_wp2_with (go_at_call 16; refine h.mono ?_; rintro e w1 ⟨n, ev, rfl, hn, hb1, hd⟩; have hd1 : ev = .nilIface ∧ n = nuN s.data.toList := (hd.resolve_right fun h => absurd (h.2.symm.trans (Bool.and_eq_true_iff.1 HK.out).1) (by decide)).imp_right fun h => h (Bool.and_eq_true_iff.1 HK.out).1; clear hd; obtain ⟨rfl, rfl⟩ := hd1)
    have hT : hexB (nB (nuN s.data.toList)) = s := (text_iff s _ (fun _ => rfl) hn).2 ⟨HK.out, rfl⟩
    have hnt := fun W (hW : TabOk W) => nt_calls _ hn W hW
    rw [hT] at hnt
    have ht := tab_below HE.out hb1
    have hq : (!s.toList == s.toList) = false := by simp
    have HB := Lib.hid hb1
    have HT := Lib.hid ht
    clear hT hn hb1 ht h
    generalize hg : nuN s.data.toList = n at hnt ⊢
    have HG := Lib.hid hg
    clear hg
    go_wp2_with (go_at_call 18; refine (hnt _ HT.out).mono ?_; rintro e w' ⟨rfl, hb⟩)
    go_ret2
    exact ⟨by rw [HG.out]; rfl, HB.out.trans (hb.mono HB.out.size)⟩
  | false =>
    rw [(rn_no hk).1, (rn_no hk).2]
    have HK := Lib.hid hk
    clear hk
    go_enter Tryd.func7, Tryd.ntmps7
    go_wp2_with (go_at_call 16; refine h.mono ?_; rintro e w1 ⟨n, ev, rfl, hn, hb1, hd⟩; rcases hd with ⟨rfl, hc⟩ | ⟨⟨te, pe, rfl⟩, hc⟩)
    · have hT : hexB (nB n) ≠ s := fun h => absurd (HK.out.symm.trans ((text_iff s n hc hn).1 h).1) (by decide)
      have hnt := fun W (hW : TabOk W) => nt_calls n hn W hW
      generalize hexB (nB n) = T at hnt hT
      have hq : (!T.toList == s.toList) = true := by
        rw [beq_eq_false_iff_ne.2 fun h => hT (toList_inj h)]
        rfl
      have HB := Lib.hid hb1
      have HT := Lib.hid (tab_below HE.out hb1)
      clear hT hn hb1 h hc
      go_wp2_with (go_at_call 18; refine (hnt _ HT.out).mono ?_; rintro e w' ⟨rfl, hb⟩)
      go_ret2
      exact ⟨rfl, HB.out.trans (hb.mono HB.out.size)⟩
    · go_ret2
      exact ⟨rfl, hb1⟩
end Tx
end Go.Proofs.YtbidagapkcmfnaaDoor
end
