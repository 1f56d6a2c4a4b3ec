/-
  A READER'S END, whatever was wrong before (wire.Reader.End); rows of records that may be are not too long. Conditions: what each theorem names.
  A RECORD NO LONGER THAN IS WAITED FOR (castellanref05.Short). No condition.
-/
import Derived.Test.YtgbcjmpnkejpeaaGreatDoorJRecFlda3
import Derived.Test.YtgbcjmpnkejpeaaGreatDoorJRecSmb
import Derived.Test.YtgbcjmpnkejpeaaGreatDoorJRecMa2
import Derived.Deep.DeepCutAuto
namespace Go.Proofs.YtgbcjmpnkejpeaaGreatDoor
open Go.RowKit

/-- What a reader's End leaves. -/
def endS (l : List Int) (s : Gs) : Gs := if s.pt < l.length then refS ⟨#[101, 110, 100]⟩ 5 s else s
theorem rend_gs (p : Nat) (ao : Option Addr) (cap : Nat) (l : List Int) (s : Gs) (w : World) (hr : RdG w p (.slice ao l.length cap) s) :
    Calls Tryz.prog 17 #[.pointer (some ⟨p, 0, none⟩)] w fun x w' => x = .returned (erN (endS l s).op (endS l s).pt (endS l s).c) ∧ RdG w' p (.slice ao l.length cap) (endS l s) ∧ Bx p w w' := by
  by_cases hc : s.c = 0
  · have hr' : Rd w p (.slice ao l.length cap) s.pt .nilIface := by unfold RdG at hr; rwa [erN, if_pos hc] at hr
    refine (rend_any p ao l.length cap s.pt w hr').mono ?_
    rintro e w' ⟨rfl, h2, h3⟩
    unfold endS refS
    by_cases hp : s.pt < l.length
    · rw [if_pos hp, if_pos hc]
      rw [show endC l.length s.pt = 5 by simp [endC, hp]] at h2 ⊢
      exact ⟨rfl, h2, h3⟩
    · rw [if_neg hp]
      rw [show endC l.length s.pt = 0 by simp [endC, hp]] at h2 ⊢
      unfold RdG
      rw [hc]
      exact ⟨rfl, h2, h3⟩
  · have hb := hr.bad hc
    have he : endS l s = s := by unfold endS refS; rw [if_neg hc]; split <;> rfl
    rw [he, show erN s.op s.pt s.c = ft s.op s.pt s.c from if_neg hc]
    refine (rend_err p ao l.length cap s.pt _ _ w hb).mono ?_
    rintro e w' ⟨rfl, h2, h3⟩
    exact ⟨rfl, by unfold RdG; rw [erN, if_neg hc]; exact h2, h3⟩
theorem chk_ln {r : Rc} (h : (chk r).2.2 = 0) : LnR r := by
  have hi := chk_is h
  have hrow : ∀ (l : List Int) (h : Bool), rowB l h = true → l.length ≤ 100000 := fun l h e => by
    have := rowB_asks e
    split at this
    · have := this.1; omega
    · rw [this]; simp
  exact ⟨hrow _ _ hi.ids, hrow _ _ hi.isr, hrow _ _ hi.ad, hrow _ _ hi.dr⟩
theorem zero_ln : LnR Rc.zero := ⟨by decide, by decide, by decide, by decide⟩
theorem read_ln (l : List Int) (s : Gs) : LnR (readG l s).2 := by
  unfold readG
  simp only
  split
  · split
    · split
      · exact chk_ln (by assumption)
      · exact zero_ln
    · exact zero_ln
  · exact zero_ln
theorem rdG_bx {p q : Nat} {v : Value} {s : Gs} {W W' : World} (h : RdG W p v s) (hb : Bx q W W') (hq : p ≠ q) : RdG W' p v s :=
  have hl := h.lt
  ⟨(hb.cell hl hq).trans h.c0, (hb.cell hl hq).trans h.c1, (hb.cell hl hq).trans h.c2, fun i => (hb.frozen hl hq).trans (h.fz i)⟩
end Go.Proofs.YtgbcjmpnkejpeaaGreatDoor
namespace Go.Proofs.YtgbcjmpnkejpeaaGreatDoor
open Go.RowKit

set_option maxRecDepth 100000 in
set_option maxHeartbeats 8000000 in
theorem short_go (k br ep tp pa le cl se co : Int) (fl : Bool) (nm ky va rk : List UInt8) (a14 a15 a16 a17 : Option Addr) (c14 c15 c16 c17 : Nat) (ids isr ad dr : List Int) (w : World) :
    Calls Tryz.prog 61 #[.agg #[.int .i64 k, .int .i64 br, .int .i64 ep, .int .i64 tp, .int .i64 pa, .int .i64 le, .int .i64 cl, .int .i64 se, .int .i64 co, .bool fl, .string ⟨nm.toArray⟩, .string ⟨ky.toArray⟩, .string ⟨va.toArray⟩, .string ⟨rk.toArray⟩, .slice a14 ids.length c14, .slice a15 isr.length c15, .slice a16 ad.length c16, .slice a17 dr.length c17]] w fun e w' => e = .returned (.bool (decide (nm.length ≤ 400 ∧ ky.length ≤ 400 ∧ va.length ≤ 400 ∧ rk.length ≤ 400 ∧ ids.length ≤ 60 ∧ isr.length ≤ 60 ∧ ad.length ≤ 60 ∧ dr.length ≤ 60))) ∧ Below w.heap.size w w' := by
  obtain ⟨R, hR⟩ : ∃ R, R = decide (nm.length ≤ 400 ∧ ky.length ≤ 400 ∧ va.length ≤ 400 ∧ rk.length ≤ 400 ∧ ids.length ≤ 60 ∧ isr.length ≤ 60 ∧ ad.length ≤ 60 ∧ dr.length ≤ 60) := ⟨_, rfl⟩
  rw [← hR]
  have HR := hide hR
  clear hR
  have HQ : Hid ((w.alloc (.cells #[.int .i64 k, .int .i64 br, .int .i64 ep, .int .i64 tp, .int .i64 pa, .int .i64 le, .int .i64 cl, .int .i64 se, .int .i64 co, .bool fl, .string ⟨nm.toArray⟩, .string ⟨ky.toArray⟩, .string ⟨va.toArray⟩, .string ⟨rk.toArray⟩, .slice a14 ids.length c14, .slice a15 isr.length c15, .slice a16 ad.length c16, .slice a17 dr.length c17] 35)).rangeAt w.heap.size 0 [.int .i64 k, .int .i64 br, .int .i64 ep, .int .i64 tp, .int .i64 pa, .int .i64 le, .int .i64 cl, .int .i64 se, .int .i64 co, .bool fl, .string ⟨nm.toArray⟩, .string ⟨ky.toArray⟩, .string ⟨va.toArray⟩, .string ⟨rk.toArray⟩, .slice a14 ids.length c14, .slice a15 isr.length c15, .slice a16 ad.length c16, .slice a17 dr.length c17]) := hide (range_new w _ _)
  have HB : Hid (Below w.heap.size w (w.alloc (.cells #[.int .i64 k, .int .i64 br, .int .i64 ep, .int .i64 tp, .int .i64 pa, .int .i64 le, .int .i64 cl, .int .i64 se, .int .i64 co, .bool fl, .string ⟨nm.toArray⟩, .string ⟨ky.toArray⟩, .string ⟨va.toArray⟩, .string ⟨rk.toArray⟩, .slice a14 ids.length c14, .slice a15 isr.length c15, .slice a16 ad.length c16, .slice a17 dr.length c17] 35))) := hide ((Below.refl _ _).alloc (Nat.le_refl _) _)
  go_enter Tryz.func61, Tryz.ntmps61
  go_upto_region 1 with fail
  generalize w.alloc (.cells #[.int .i64 k, .int .i64 br, .int .i64 ep, .int .i64 tp, .int .i64 pa, .int .i64 le, .int .i64 cl, .int .i64 se, .int .i64 co, .bool fl, .string ⟨nm.toArray⟩, .string ⟨ky.toArray⟩, .string ⟨va.toArray⟩, .string ⟨rk.toArray⟩, .slice a14 ids.length c14, .slice a15 isr.length c15, .slice a16 ad.length c16, .slice a17 dr.length c17] 35) = X at HQ HB ⊢
  obtain ⟨g0, g1, g2, g3, g4, g5, g6, g7, g8, g9, g10, g11, g12, g13, g14, g15, g16, g17⟩ := C18.of HQ.out
  clear g0 g1 g2 g3 g4 g5 g6 g7 g8 g9
  by_cases qnm : nm.length ≤ 400
  case neg =>
    have HE : Hid (R = false) := hide (by rw [HR.out]; simp [qnm])
    have pnm : ¬ (nm.length : Int) ≤ 400 := by omega
    go_wp2_with fail
    go_ret
    exact ⟨by rw [HE.out]; first | rfl | simp [pnm], HB.out⟩
  have pnm : (nm.length : Int) ≤ 400 := by omega
  by_cases qky : ky.length ≤ 400
  case neg =>
    have HE : Hid (R = false) := hide (by rw [HR.out]; simp [qky])
    have pky : ¬ (ky.length : Int) ≤ 400 := by omega
    go_wp2_with fail
    go_ret
    exact ⟨by rw [HE.out]; first | rfl | simp [pky], HB.out⟩
  have pky : (ky.length : Int) ≤ 400 := by omega
  by_cases qva : va.length ≤ 400
  case neg =>
    have HE : Hid (R = false) := hide (by rw [HR.out]; simp [qva])
    have pva : ¬ (va.length : Int) ≤ 400 := by omega
    go_wp2_with fail
    go_ret
    exact ⟨by rw [HE.out]; first | rfl | simp [pva], HB.out⟩
  have pva : (va.length : Int) ≤ 400 := by omega
  by_cases qrk : rk.length ≤ 400
  case neg =>
    have HE : Hid (R = false) := hide (by rw [HR.out]; simp [qrk])
    have prk : ¬ (rk.length : Int) ≤ 400 := by omega
    go_wp2_with fail
    go_ret
    exact ⟨by rw [HE.out]; first | rfl | simp [prk], HB.out⟩
  have prk : (rk.length : Int) ≤ 400 := by omega
  by_cases qids : ids.length ≤ 60
  case neg =>
    have HE : Hid (R = false) := hide (by rw [HR.out]; simp [qids])
    have pids : ¬ (ids.length : Int) ≤ 60 := by omega
    go_wp2_with fail
    go_ret
    exact ⟨by rw [HE.out]; first | rfl | simp [pids], HB.out⟩
  have pids : (ids.length : Int) ≤ 60 := by omega
  by_cases qisr : isr.length ≤ 60
  case neg =>
    have HE : Hid (R = false) := hide (by rw [HR.out]; simp [qisr])
    have pisr : ¬ (isr.length : Int) ≤ 60 := by omega
    go_wp2_with fail
    go_ret
    exact ⟨by rw [HE.out]; first | rfl | simp [pisr], HB.out⟩
  have pisr : (isr.length : Int) ≤ 60 := by omega
  by_cases qad : ad.length ≤ 60
  case neg =>
    have HE : Hid (R = false) := hide (by rw [HR.out]; simp [qad])
    have pad : ¬ (ad.length : Int) ≤ 60 := by omega
    go_wp2_with fail
    go_ret
    exact ⟨by rw [HE.out]; first | rfl | simp [pad], HB.out⟩
  have pad : (ad.length : Int) ≤ 60 := by omega
  by_cases qdr : dr.length ≤ 60
  case neg =>
    have HE : Hid (R = false) := hide (by rw [HR.out]; simp [qdr])
    have pdr : ¬ (dr.length : Int) ≤ 60 := by omega
    go_wp2_with fail
    go_ret
    exact ⟨by rw [HE.out]; first | rfl | simp [pdr], HB.out⟩
  have pdr : (dr.length : Int) ≤ 60 := by omega
  have HE : Hid (R = true) := hide (by rw [HR.out]; exact decide_eq_true ⟨qnm, qky, qva, qrk, qids, qisr, qad, qdr⟩)
  go_wp2_with fail
  go_ret
  exact ⟨by rw [HE.out]; first | rfl | simp [pdr], HB.out⟩
def shB (r : Rc) : Bool := decide (r.nm.length ≤ 400 ∧ r.ky.length ≤ 400 ∧ r.va.length ≤ 400 ∧ r.rk.length ≤ 400 ∧ r.ids.length ≤ 60 ∧ r.isr.length ≤ 60 ∧ r.ad.length ≤ 60 ∧ r.dr.length ≤ 60)
theorem short_any {ok : Nat → Prop} (r : Rc) (v : Value) (w : World) (hv : IsR ok w v r) : Calls Tryz.prog 61 #[v] w fun e w' => e = .returned (.bool (shB r)) ∧ Below w.heap.size w w' := by
  obtain ⟨a14, a15, a16, a17, c14, c15, c16, c17, rfl, h⟩ := hv
  exact short_go r.k r.br r.ep r.tp r.pa r.le r.cl r.se r.co r.fl r.nm r.ky r.va r.rk a14 a15 a16 a17 c14 c15 c16 c17 r.ids r.isr r.ad r.dr w
theorem sh_tx {r : Rc} (h : shB r = true) : TxR r := by
  unfold shB at h
  have := of_decide_eq_true h
  exact ⟨by omega, by omega, by omega, by omega⟩
end Go.Proofs.YtgbcjmpnkejpeaaGreatDoor
