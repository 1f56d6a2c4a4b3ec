/-
  A RECORD NO LONGER THAN IS WAITED FOR (castellanref05.Short). No condition.
-/
import Derived.Test.YthoeajiojdfgdaaGreatDoorRecV
import Derived.Deep.DeepCutAuto
namespace Go.Proofs.YthoeajiojdfgdaaGreatDoor
open Go.RowKit

set_option maxRecDepth 100000 in
set_option maxHeartbeats 8000000 in
theorem short_go (k br ep tp pa le cl se co : Int) (fl : Bool) (nm ky va rk : List UInt8) (a14 a15 a16 a17 : Option Addr) (c14 c15 c16 c17 : Nat) (ids isr ad dr : List Int) (w : World) :
    Calls Tryz.prog 6 #[.agg #[.int .i64 k, .int .i64 br, .int .i64 ep, .int .i64 tp, .int .i64 pa, .int .i64 le, .int .i64 cl, .int .i64 se, .int .i64 co, .bool fl, .string ⟨nm.toArray⟩, .string ⟨ky.toArray⟩, .string ⟨va.toArray⟩, .string ⟨rk.toArray⟩, .slice a14 ids.length c14, .slice a15 isr.length c15, .slice a16 ad.length c16, .slice a17 dr.length c17]] w fun e w' => e = .returned (.bool (decide (nm.length ≤ 400 ∧ ky.length ≤ 400 ∧ va.length ≤ 400 ∧ rk.length ≤ 400 ∧ ids.length ≤ 60 ∧ isr.length ≤ 60 ∧ ad.length ≤ 60 ∧ dr.length ≤ 60))) ∧ Below w.heap.size w w' := by
  obtain ⟨R, hR⟩ : ∃ R, R = decide (nm.length ≤ 400 ∧ ky.length ≤ 400 ∧ va.length ≤ 400 ∧ rk.length ≤ 400 ∧ ids.length ≤ 60 ∧ isr.length ≤ 60 ∧ ad.length ≤ 60 ∧ dr.length ≤ 60) := ⟨_, rfl⟩
  rw [← hR]
  have HR := hide hR
  clear hR
  have HQ : Hid ((w.alloc (.cells #[.int .i64 k, .int .i64 br, .int .i64 ep, .int .i64 tp, .int .i64 pa, .int .i64 le, .int .i64 cl, .int .i64 se, .int .i64 co, .bool fl, .string ⟨nm.toArray⟩, .string ⟨ky.toArray⟩, .string ⟨va.toArray⟩, .string ⟨rk.toArray⟩, .slice a14 ids.length c14, .slice a15 isr.length c15, .slice a16 ad.length c16, .slice a17 dr.length c17] 24)).rangeAt w.heap.size 0 [.int .i64 k, .int .i64 br, .int .i64 ep, .int .i64 tp, .int .i64 pa, .int .i64 le, .int .i64 cl, .int .i64 se, .int .i64 co, .bool fl, .string ⟨nm.toArray⟩, .string ⟨ky.toArray⟩, .string ⟨va.toArray⟩, .string ⟨rk.toArray⟩, .slice a14 ids.length c14, .slice a15 isr.length c15, .slice a16 ad.length c16, .slice a17 dr.length c17]) := hide (range_new w _ _)
  have HB : Hid (Below w.heap.size w (w.alloc (.cells #[.int .i64 k, .int .i64 br, .int .i64 ep, .int .i64 tp, .int .i64 pa, .int .i64 le, .int .i64 cl, .int .i64 se, .int .i64 co, .bool fl, .string ⟨nm.toArray⟩, .string ⟨ky.toArray⟩, .string ⟨va.toArray⟩, .string ⟨rk.toArray⟩, .slice a14 ids.length c14, .slice a15 isr.length c15, .slice a16 ad.length c16, .slice a17 dr.length c17] 24))) := hide ((Below.refl _ _).alloc (Nat.le_refl _) _)
  go_enter Tryz.func6, Tryz.ntmps6
  go_upto_region 1 with fail
  generalize w.alloc (.cells #[.int .i64 k, .int .i64 br, .int .i64 ep, .int .i64 tp, .int .i64 pa, .int .i64 le, .int .i64 cl, .int .i64 se, .int .i64 co, .bool fl, .string ⟨nm.toArray⟩, .string ⟨ky.toArray⟩, .string ⟨va.toArray⟩, .string ⟨rk.toArray⟩, .slice a14 ids.length c14, .slice a15 isr.length c15, .slice a16 ad.length c16, .slice a17 dr.length c17] 24) = X at HQ HB ⊢
  obtain ⟨g0, g1, g2, g3, g4, g5, g6, g7, g8, g9, g10, g11, g12, g13, g14, g15, g16, g17⟩ := C18.of HQ.out
  clear g0 g1 g2 g3 g4 g5 g6 g7 g8 g9
  by_cases qnm : nm.length ≤ 400
  case neg =>
    have HE : Hid (R = false) := hide (by rw [HR.out]; simp [qnm])
    have pnm : ¬ (nm.length : Int) ≤ 400 := by omega
    go_wp2_with fail
    go_ret
    exact ⟨by rw [HE.out]; first | rfl | simp [pnm], HB.out⟩
  have pnm : (nm.length : Int) ≤ 400 := by omega
  by_cases qky : ky.length ≤ 400
  case neg =>
    have HE : Hid (R = false) := hide (by rw [HR.out]; simp [qky])
    have pky : ¬ (ky.length : Int) ≤ 400 := by omega
    go_wp2_with fail
    go_ret
    exact ⟨by rw [HE.out]; first | rfl | simp [pky], HB.out⟩
  have pky : (ky.length : Int) ≤ 400 := by omega
  by_cases qva : va.length ≤ 400
  case neg =>
    have HE : Hid (R = false) := hide (by rw [HR.out]; simp [qva])
    have pva : ¬ (va.length : Int) ≤ 400 := by omega
    go_wp2_with fail
    go_ret
    exact ⟨by rw [HE.out]; first | rfl | simp [pva], HB.out⟩
  have pva : (va.length : Int) ≤ 400 := by omega
  by_cases qrk : rk.length ≤ 400
  case neg =>
    have HE : Hid (R = false) := hide (by rw [HR.out]; simp [qrk])
    have prk : ¬ (rk.length : Int) ≤ 400 := by omega
    go_wp2_with fail
    go_ret
    exact ⟨by rw [HE.out]; first | rfl | simp [prk], HB.out⟩
  have prk : (rk.length : Int) ≤ 400 := by omega
  by_cases qids : ids.length ≤ 60
  case neg =>
    have HE : Hid (R = false) := hide (by rw [HR.out]; simp [qids])
    have pids : ¬ (ids.length : Int) ≤ 60 := by omega
    go_wp2_with fail
    go_ret
    exact ⟨by rw [HE.out]; first | rfl | simp [pids], HB.out⟩
  have pids : (ids.length : Int) ≤ 60 := by omega
  by_cases qisr : isr.length ≤ 60
  case neg =>
    have HE : Hid (R = false) := hide (by rw [HR.out]; simp [qisr])
    have pisr : ¬ (isr.length : Int) ≤ 60 := by omega
    go_wp2_with fail
    go_ret
    exact ⟨by rw [HE.out]; first | rfl | simp [pisr], HB.out⟩
  have pisr : (isr.length : Int) ≤ 60 := by omega
  by_cases qad : ad.length ≤ 60
  case neg =>
    have HE : Hid (R = false) := hide (by rw [HR.out]; simp [qad])
    have pad : ¬ (ad.length : Int) ≤ 60 := by omega
    go_wp2_with fail
    go_ret
    exact ⟨by rw [HE.out]; first | rfl | simp [pad], HB.out⟩
  have pad : (ad.length : Int) ≤ 60 := by omega
  by_cases qdr : dr.length ≤ 60
  case neg =>
    have HE : Hid (R = false) := hide (by rw [HR.out]; simp [qdr])
    have pdr : ¬ (dr.length : Int) ≤ 60 := by omega
    go_wp2_with fail
    go_ret
    exact ⟨by rw [HE.out]; first | rfl | simp [pdr], HB.out⟩
  have pdr : (dr.length : Int) ≤ 60 := by omega
  have HE : Hid (R = true) := hide (by rw [HR.out]; exact decide_eq_true ⟨qnm, qky, qva, qrk, qids, qisr, qad, qdr⟩)
  go_wp2_with fail
  go_ret
  exact ⟨by rw [HE.out]; first | rfl | simp [pdr], HB.out⟩
def shB (r : Rc) : Bool := decide (r.nm.length ≤ 400 ∧ r.ky.length ≤ 400 ∧ r.va.length ≤ 400 ∧ r.rk.length ≤ 400 ∧ r.ids.length ≤ 60 ∧ r.isr.length ≤ 60 ∧ r.ad.length ≤ 60 ∧ r.dr.length ≤ 60)
theorem short_any {ok : Nat → Prop} (r : Rc) (v : Value) (w : World) (hv : IsR ok w v r) : Calls Tryz.prog 6 #[v] w fun e w' => e = .returned (.bool (shB r)) ∧ Below w.heap.size w w' := by
  obtain ⟨a14, a15, a16, a17, c14, c15, c16, c17, rfl, h⟩ := hv
  exact short_go r.k r.br r.ep r.tp r.pa r.le r.cl r.se r.co r.fl r.nm r.ky r.va r.rk a14 a15 a16 a17 c14 c15 c16 c17 r.ids r.isr r.ad r.dr w
theorem sh_tx {r : Rc} (h : shB r = true) : TxR r := by
  unfold shB at h
  have := of_decide_eq_true h
  exact ⟨by omega, by omega, by omega, by omega⟩
end Go.Proofs.YthoeajiojdfgdaaGreatDoor
